/-
  Bytes that are appended one by one, and made a text. Nothing of the program stands here but numbers of types.
  Contracts of the document's own answer for layer 4: xor. Conditions: texts of one length, not empty, at most 1000 bytes.
  Contracts of the document's own answer for layer 4: shifted, by 1 and by 3. Conditions: a text of 16 bytes.
  Tables of the document's own answer for layer 3, plain: powers of 3; tables that are filled place by place. And an allocation of a row of bytes. Nothing of the program stands here.
  Contracts of the document's own answer for layer 4: mixed. Conditions: a text of 16 bytes.
  Contracts of the document's own answer for layer 3: Subs and Backs tell the tables. No conditions.
  The document's own answer for layer 4, its helpers over lists of bytes; Run. Conditions: bytes; blocks of 16; round keys of 16 bytes each.
  The document's own answer for layer 4: a key's words, expanded. Conditions: a key of 16 or 32 bytes.
  Contracts of the document's own answer for layer 4: May, Expand, Encrypt, Decrypt tell what the program tells. No conditions.
-/
import Derived.Test.YtefiecgadbacjaaGAe3
import Derived.Test.YtefiecgadbacjaaGKit
import Derived.Test.YtefiecgadbacjaaGRf3
import Derived.Deep.DeepCutAuto
namespace Go.Proofs.Ytefiecgadbacjaa
open Go.RowKit Go.Shelf

/-- what was appended, made a text. -/
theorem conv_own {W : World} {base k : Nat} {v : Value} {L : List Nat} (hown : W.ownsRow base 5 1 v k (nL L)) (hl : L.length = k) (hk : 0 < k) :
    (convert 35 9 v).run Try.prog W = .ok (.string (strN L)) W := by
  obtain ⟨n, rfl⟩ : ∃ n, k = n + 1 := ⟨k - 1, by omega⟩
  obtain ⟨g, cap, rfl⟩ := ownsRow_succ hown
  exact run_convert_bytes_arg (P := Try.prog) W 35 5 Try.underlying35 Try.underlying5 g 0 (n + 1) cap (L.map fun x : Nat => (x : Int)) (by rw [List.length_map, hl]) (fun i hi => by
    rw [Nat.zero_add, hown.cellAt i (by omega)]
    rw [nL, List.getElem?_map, List.getElem?_eq_getElem (by omega), List.getD_eq_getElem?_getD, List.getElem?_map, List.getElem?_eq_getElem (by omega)]
    rfl) 9 Try.underlying9
theorem btN_nat (L : List Nat) (h : ∀ x ∈ L, x < 256) (i : Nat) : btN (strN L) i = L.getD i 0 := by rw [btN, strN_nat h]
theorem nL_snoc (L : List Nat) (x : Nat) : nL (L ++ [x]) = nL L ++ [Value.int .u8 (x : Int)] := by simp [nL]
theorem take_snoc (L : List Nat) (k : Nat) (h : k < L.length) : L.take (k + 1) = L.take k ++ [L.getD k 0] := by
  rw [List.take_add_one, List.getD_eq_getElem?_getD, List.getElem?_eq_getElem h]
  rfl
section
variable {P : Program} {md : Region.Mode} {ops : Array Oper} {Q : Exit → Act → World → Prop} {S : World → Prop} {fuel i : Nat} {listed : Array Bool} {a : Act} {w : World} {o : Oper}
/-- an append that comes next in a region that draws its order. -/
theorem wpAnyH_append (hr : Region.ready md ops listed = [i]) (ho : ops[i]? = some o) (hw : Region.wanted o (yielded ops a.tmps) = true)
    (s x : Operand) (t : TypeId) (hop : o.op = Op.call { callee := Callee.builtin Builtin.append, args := #[s, x], argTypes := #[t, t] })
    (base : Nat) (e : TypeId) (i0 : TypeInfo) (z : Value) (size bytes : Nat) (h1 : P.underlying t = some (.slice e)) (h2 : P.info? e = some i0) (h3 : i0.zero = some z) (h4 : i0.size = size) (h5 : i0.bytes = bytes) (h6 : z.cells.size = size) (h7 : 0 < size)
    (v : Value) (k : Nat) (xs : List Value) (hs : a.eval s = v) (hown : w.ownsRow base e size v k xs) (ad : Addr) (m c : Nat) (news : List Value) (hx : a.eval x = .slice (some ad) m c) (hn : news.length = m * size)
    (hc : ∀ j u, news[j]? = some u → w.cell? (ad.add j) = some u) (h1c : ∀ u ∈ news, u.oneCell' = true) (b1 : k + m ≤ maxLen) (b2 : (k + m) * bytes ≤ 140737488355328) (b3 : base ≤ w.heap.size)
    (hK : ∀ v' w', w'.ownsRow base e size v' (k + m) (xs ++ news) → w.grownBy w' v.ownBlock → S w' ∧ wpAnyH P md ops Q S fuel (listed.setIfInBounds i true) (a.put o.dst v') w') :
    wpAnyH P md ops Q S (fuel + 1) listed a w :=
  wpAnyH_step hr ho hw fun K' hK' => by
    obtain ⟨v', w', hrun, r1, r2, _⟩ := run_append_own (P := P) w base t o.type e i0 z size bytes h1 h2 h3 h4 h5 h6 h7 v k xs hown ad m c news hn hc h1c b1 b2 b3
    unfold Oper.wp
    simp [execOp, hop, resolve, invoke, builtin, hs, hx, hrun, Result.andThen]
    obtain ⟨hS, hh⟩ := hK v' w' r1 r2
    exact hK'.out _ _ hS fun _ => hh
end

set_option maxRecDepth 100000 in
set_option maxHeartbeats 1000000 in
theorem rsubbed_any (s : ByteArray) (T : List Nat) (w : World) (hs0 : 0 < s.size) (hs : s.size ≤ 1000) (hT : T.length = 256) :
    Calls Try.prog 31 #[.string s, .agg (nA T)] w fun e w' => e = .returned (.string (strN ((natL s).map fun x => T.getD x 0))) ∧ Below w.heap.size w w' := by
  obtain ⟨i0, hi, hz0, hz1, hz2⟩ := infoThree infoU8
  have hR : ((natL s).map fun x => T.getD x 0).length = s.size := by rw [List.length_map, natL_len]
  have hRg : ∀ k, k < s.size → ((natL s).map fun x => T.getD x 0).getD k 0 = T.getD (btN s k) 0 := fun k hk => by
    rw [List.getD_eq_getElem?_getD, List.getElem?_map, btN, List.getD_eq_getElem?_getD (l := natL s), List.getElem?_eq_getElem (by rw [natL_len]; exact hk)]
    rfl
  generalize (natL s).map (fun x => T.getD x 0) = R at *
  have HR := Lib.hid hR
  have HRG := Lib.hid hRg
  have HT := Lib.hid hT
  clear hR hRg hT
  have iT : Is (w.alloc (.cells (nA T) 56)) w.heap.size 56 (nA T) := Is.new w _ _
  have hB0 : Below w.heap.size w (w.alloc (.cells (nA T) 56)) := (Below.refl _ _).alloc (Nat.le_refl _) _
  go_enter Try.func31, Try.ntmps31
  go_wp2
  go_loopw [5, 6] (fun v i wr => ∃ k : Nat, k ≤ s.size ∧ i = .int .i64 k ∧ wr.ownsRow (w.heap.size + 1) 5 1 v k (nL (R.take k)) ∧ Is wr w.heap.size 56 (nA T) ∧ Below w.heap.size w wr)
    (fun _ i _ => s.size - (intOf i).toNat)
  case atStart => exact ⟨0, by omega, rfl, World.ownsRow_nil _ _ _ _, iT, hB0⟩
  case round =>
    clear iT hB0
    obtain ⟨k, hk, rfl, hown, iT, hB⟩ := hrel
    have hsz := iT.lt
    by_cases hlt : k < s.size
    · have ga := btN_get hlt
      have hi2 : (k : Int) < (s.size : Int) := by omega
      have hbl := btN_lt s k
      have hb1 : (btN s k : Int) < 256 := by omega
      have hsu := take_snoc R k (by rw [HR.out]; exact hlt)
      rw [HRG.out k hlt] at hsu
      have HSU := Lib.hid hsu
      clear hsu
      have hcl := iT.cell (btN s k)
      rw [nA_get T _ (by rw [HT.out]; exact hbl)] at hcl
      generalize btN s k = y at *
      generalize T.getD y 0 = z at *
      go_wp2_with (at_builtin; refine wpList_append_own _ rfl _ _ 35 rfl (w.heap.size + 1) 5 i0 (.int .u8 0) 1 1 Try.underlying35 hi hz0 hz1 hz2 rfl (by decide) _ _ _ rfl (hown.alloc _) ⟨wr.heap.size, 0, none⟩ 1 1 [.int .u8 (z : Int)] rfl rfl ?c1 ?c2 ?c3 ?c4 ?c5 ?_)
      case c1 =>
        intro j u hj
        match j, hj with
        | 0, hj => simp at hj; subst hj; simp [Addr.add]
      case c2 => intro u hu; simp only [List.mem_cons, List.not_mem_nil, or_false] at hu; subst hu; rfl
      case c3 => unfold maxLen; omega
      case c4 => omega
      case c5 => simp; omega
      intro v' w1 hown' hgrow _
      have hB1 : Below w.heap.size w w1 := (hB.alloc hB.size _).grown hgrow (by have := hB.size; simp; omega) (fun g e => by have := (hown.lt g e).1; omega)
      have iT1 : Is w1 w.heap.size 56 (nA T) := (hgrow.block _ (by simp; omega) (fun e => by have := (hown.lt _ e.symm).1; omega)).trans (iT.alloc _)
      have hown1 : w1.ownsRow (w.heap.size + 1) 5 1 v' (k + 1) (nL (R.take (k + 1))) := by
        rw [HSU.out, nL_snoc]
        exact hown'
      clear hown' hgrow hown hB iT
      go_wp2
      go_roundw
      case rel => exact ⟨k + 1, by omega, by go_num, hown1, iT1, hB1⟩
      case measure => simp [intOf]; omega
    · obtain rfl : k = s.size := by omega
      rw [List.take_of_length_le (by rw [HR.out]; exact Nat.le_refl _)] at hown
      have hcv := conv_own hown HR.out hs0
      generalize hst : strN R = st at hcv
      have HST := Lib.hid hst
      clear hst hown
      go_wp2
      go_ret
      exact ⟨by rw [HST.out]; rfl, hB⟩
end Go.Proofs.Ytefiecgadbacjaa
namespace Go.Proofs.Ytefiecgadbacjaa
open Go.RowKit Go.Shelf

set_option maxRecDepth 100000 in
set_option maxHeartbeats 1000000 in
theorem rxor_any (a b : ByteArray) (w : World) (h0 : 0 < a.size) (h1 : a.size ≤ 1000) (hab : b.size = a.size) :
    Calls Try.prog 29 #[.string a, .string b] w fun e w' => e = .returned (.string (strN (xorB (natL a) (natL b)))) ∧ Below w.heap.size w w' := by
  obtain ⟨i0, hi, hz0, hz1, hz2⟩ := infoThree infoU8
  have hR : (xorB (natL a) (natL b)).length = a.size := by rw [xorB, List.length_zipWith, natL_len, natL_len, hab, Nat.min_self]
  have hRg : ∀ k, (xorB (natL a) (natL b)).getD k 0 = btN a k ^^^ btN b k := fun k => xorB_getD (by rw [natL_len, natL_len, hab]) k
  generalize xorB (natL a) (natL b) = R at *
  have HR := Lib.hid hR
  have HRG := Lib.hid hRg
  clear hR hRg
  have HAB := Lib.hid hab
  clear hab
  go_enter Try.func29, Try.ntmps29
  go_wp2
  go_loopw [5, 6] (fun v i wr => ∃ k : Nat, k ≤ a.size ∧ i = .int .i64 k ∧ wr.ownsRow w.heap.size 5 1 v k (nL (R.take k)) ∧ Below w.heap.size w wr)
    (fun _ i _ => a.size - (intOf i).toNat)
  case atStart => exact ⟨0, by omega, rfl, World.ownsRow_nil _ _ _ _, Below.refl _ _⟩
  case round =>
    obtain ⟨k, hk, rfl, hown, hB⟩ := hrel
    by_cases hlt : k < a.size
    · have hltb : k < b.size := by rw [HAB.out]; exact hlt
      have ga := btN_get hlt
      have gb := btN_get hltb
      have ka1 : (k : Int) < (a.size : Int) := by omega
      have kb1 : (k : Int) < (b.size : Int) := by omega
      have hsu := take_snoc R k (by rw [HR.out]; exact hlt)
      rw [HRG.out k] at hsu
      have hx := u8_xor_nat (btN a k) (btN b k) (btN_lt a k) (btN_lt b k)
      generalize btN a k ^^^ btN b k = x at *
      generalize btN a k = y at *
      generalize btN b k = z at *
      have HSU := Lib.hid hsu
      have hownD : wr.drew.ownsRow w.heap.size 5 1 u5 k (nL (R.take k)) := hown
      have hBD : Below w.heap.size w wr.drew := belowN hB 1
      clear hsu
      go_wp2
      refine wp_region_held_drew (S := fun _ => True) (by kernel_rfl) trivial (fun hS => ?_)
      change wpAnyH _ _ (opsOf Try.f29 5) _ _ 11 (Array.replicate 11 false) _ _
      refine wpAnyH_pure (i := 0) (o := { dst := some 13, op := Op.move (Operand.tmp 5), type := 35, pos := "ref.go:16", after := #[], guard := none }) (v := u5) (by kernel_rfl) (by kernel_rfl) (by kernel_rfl) (by kernel_rfl) (fun _ _ _ h => h) (by kernel_rfl) (fun w hSw => by kernel_rfl) hS ?_
      simp only [Act.put, List.setIfInBounds_toArray, List.set_cons_succ, List.set_cons_zero]
      refine wpAnyH_pure (i := 1) (o := { dst := some 14, op := Op.move (Operand.tmp 0), type := 9, pos := "ref.go:16", after := #[], guard := none }) (v := .string a) (by kernel_rfl) (by kernel_rfl) (by kernel_rfl) (by kernel_rfl) (fun _ _ _ h => h) (by kernel_rfl) (fun w hSw => by kernel_rfl) hS ?_
      simp only [Act.put, List.setIfInBounds_toArray, List.set_cons_succ, List.set_cons_zero]
      refine wpAnyH_pure (i := 2) (o := { dst := some 15, op := Op.move (Operand.tmp 6), type := 3, pos := "ref.go:16", after := #[], guard := none }) (v := .int .i64 (k : Int)) (by kernel_rfl) (by kernel_rfl) (by kernel_rfl) (by kernel_rfl) (fun _ _ _ h => h) (by kernel_rfl) (fun w hSw => by kernel_rfl) hS ?_
      simp only [Act.put, List.setIfInBounds_toArray, List.set_cons_succ, List.set_cons_zero]
      refine wpAnyH_pure (i := 3) (o := { dst := some 16, op := Op.index 9 (Operand.tmp 14) (Operand.tmp 15), type := 5, pos := "ref.go:16", after := #[{ on := 1, ground := Ground.data }, { on := 2, ground := Ground.data }], guard := none }) (v := .int .u8 (y : Int)) (by kernel_rfl) (by kernel_rfl) (by kernel_rfl) (by kernel_rfl) (fun _ _ _ h => h) (by kernel_rfl) (fun w hSw => by go_simp) hS ?_
      simp only [Act.put, List.setIfInBounds_toArray, List.set_cons_succ, List.set_cons_zero]
      refine wpAnyH_pure (i := 4) (o := { dst := some 17, op := Op.move (Operand.tmp 1), type := 9, pos := "ref.go:16", after := #[], guard := none }) (v := .string b) (by kernel_rfl) (by kernel_rfl) (by kernel_rfl) (by kernel_rfl) (fun _ _ _ h => h) (by kernel_rfl) (fun w hSw => by kernel_rfl) hS ?_
      simp only [Act.put, List.setIfInBounds_toArray, List.set_cons_succ, List.set_cons_zero]
      refine wpAnyH_pure (i := 5) (o := { dst := some 18, op := Op.move (Operand.tmp 6), type := 3, pos := "ref.go:16", after := #[], guard := none }) (v := .int .i64 (k : Int)) (by kernel_rfl) (by kernel_rfl) (by kernel_rfl) (by kernel_rfl) (fun _ _ _ h => h) (by kernel_rfl) (fun w hSw => by kernel_rfl) hS ?_
      simp only [Act.put, List.setIfInBounds_toArray, List.set_cons_succ, List.set_cons_zero]
      refine wpAnyH_pure (i := 6) (o := { dst := some 19, op := Op.index 9 (Operand.tmp 17) (Operand.tmp 18), type := 5, pos := "ref.go:16", after := #[{ on := 4, ground := Ground.data }, { on := 5, ground := Ground.data }], guard := none }) (v := .int .u8 (z : Int)) (by kernel_rfl) (by kernel_rfl) (by kernel_rfl) (by kernel_rfl) (fun _ _ _ h => h) (by kernel_rfl) (fun w hSw => by go_simp) hS ?_
      simp only [Act.put, List.setIfInBounds_toArray, List.set_cons_succ, List.set_cons_zero]
      refine wpAnyH_pure (i := 7) (o := { dst := some 20, op := Op.binOp BinOp.xor 5 (Operand.tmp 16) (Operand.tmp 19) 5, type := 5, pos := "ref.go:16", after := #[{ on := 3, ground := Ground.data }, { on := 6, ground := Ground.data }], guard := none }) (v := .int .u8 (x : Int)) (by kernel_rfl) (by kernel_rfl) (by kernel_rfl) (by kernel_rfl) (fun _ _ _ h => h) (by kernel_rfl) (fun w hSw => by go_simp) hS ?_
      simp only [Act.put, List.setIfInBounds_toArray, List.set_cons_succ, List.set_cons_zero]
      refine wpAnyH_step (i := 8) (o := { dst := some 21, op := Op.buildSlice 35 1 #[(0, Operand.tmp 20)], type := 35, pos := "ref.go:16", after := #[{ on := 7, ground := Ground.data }], guard := none }) (by kernel_rfl) (by kernel_rfl) (by kernel_rfl) (fun Kc hKc => ?_)
      go_simp
      refine hKc.out _ _ trivial (fun _ => ?_)
      clear hKc Kc
      try simp only [Act.put, List.setIfInBounds_toArray, List.set_cons_succ, List.set_cons_zero]
      refine wpAnyH_append (i := 9) (o := { dst := some 22, op := Op.call { callee := Callee.builtin Builtin.append, args := #[Operand.tmp 13, Operand.tmp 21], argTypes := #[35, 35] }, type := 35, pos := "ref.go:16", after := #[{ on := 0, ground := Ground.data }, { on := 8, ground := Ground.data }], guard := none }) (by kernel_rfl) (by kernel_rfl) (by kernel_rfl) _ _ 35 rfl (w.heap.size) 5 i0 (.int .u8 0) 1 1 Try.underlying35 hi hz0 hz1 hz2 rfl (by decide) _ _ _ rfl (hownD.alloc _) ⟨wr.heap.size, 0, none⟩ 1 1 [.int .u8 (x : Int)] rfl rfl ?c1 ?c2 ?c3 ?c4 ?c5 ?c6
      case c1 =>
        intro j u hj
        match j, hj with
        | 0, hj => simp at hj; subst hj; simp [Addr.add]
      case c2 => intro u hu; simp only [List.mem_cons, List.not_mem_nil, or_false] at hu; subst hu; rfl
      case c3 => unfold maxLen; omega
      case c4 => omega
      case c5 => have := hB.size; simp; omega
      case c6 =>
        intro v' w1 hown' hgrow
        refine ⟨trivial, ?_⟩
        have hB1 : Below w.heap.size w w1 := (hBD.alloc hBD.size _).grown hgrow (by have := hB.size; simp; omega) (fun g e => (hown.lt g e).1)
        have hown1 : w1.ownsRow w.heap.size 5 1 v' (k + 1) (nL (R.take (k + 1))) := by
          rw [HSU.out, nL_snoc]
          exact hown'
        clear hown' hgrow hown hB hownD hBD
        simp only [Act.put, List.setIfInBounds_toArray, List.set_cons_succ, List.set_cons_zero]
        refine wpAnyH_pure (i := 10) (o := { dst := some 5, op := Op.assign (Operand.tmp 22), type := 35, pos := "ref.go:16", after := #[{ on := 9, ground := Ground.data }, { on := 9, ground := Ground.chain }, { on := 0, ground := Ground.phase }, { on := 1, ground := Ground.phase }, { on := 2, ground := Ground.phase }, { on := 3, ground := Ground.phase }, { on := 4, ground := Ground.phase }, { on := 5, ground := Ground.phase }, { on := 6, ground := Ground.phase }, { on := 7, ground := Ground.phase }, { on := 8, ground := Ground.phase }, { on := 9, ground := Ground.phase }], guard := none }) (v := v') (by kernel_rfl) (by kernel_rfl) (by kernel_rfl) (by kernel_rfl) (fun _ _ _ h => h) (by kernel_rfl) (fun w hSw => by go_simp) trivial ?_
        simp only [Act.put, List.setIfInBounds_toArray, List.set_cons_succ, List.set_cons_zero]
        refine wpAnyH_done (by kernel_rfl) ?_ _
        go_wp2
        go_roundw
        case rel => exact ⟨k + 1, by omega, by go_num, hown1, hB1⟩
        case measure => simp [intOf]; omega
    · obtain rfl : k = a.size := by omega
      rw [List.take_of_length_le (by rw [HR.out]; exact Nat.le_refl _)] at hown
      have hcv := conv_own hown HR.out h0
      generalize hst : strN R = st at hcv
      have HST := Lib.hid hst
      clear hst hown
      go_wp2
      go_ret
      exact ⟨by rw [HST.out]; rfl, hB⟩
end Go.Proofs.Ytefiecgadbacjaa
namespace Go.Proofs.Ytefiecgadbacjaa
open Go.RowKit Go.Shelf

set_option maxRecDepth 100000 in
set_option maxHeartbeats 1000000 in
theorem rshifted_1 (s : ByteArray) (w : World) (hs : s.size = 16) :
    Calls Try.prog 30 #[.string s, .int .i64 1] w fun e w' => e = .returned (.string (strN (shiftL (natL s) 1))) ∧ Below w.heap.size w w' := by
  obtain ⟨i0, hi, hz0, hz1, hz2⟩ := infoThree infoU8
  have hR : (shiftL (natL s) 1).length = 16 := by rw [shiftL, List.length_map, List.length_range]
  have hRg : ∀ c r, c < 4 → r < 4 → (shiftL (natL s) 1).getD (4 * c + r) 0 = btN s (4 * ((c + 1 * r) % 4) + r) := fun c r hc hr => by
    rw [shiftL, List.getD_eq_getElem?_getD, List.getElem?_map, List.getElem?_range (by omega)]
    show (natL s).getD (4 * (((4 * c + r) / 4 + 1 * ((4 * c + r) % 4)) % 4) + (4 * c + r) % 4) 0 = _
    rw [show (4 * c + r) / 4 = c by omega, show (4 * c + r) % 4 = r by omega]
    rfl
  generalize shiftL (natL s) 1 = R at *
  have HR := Lib.hid hR
  have HRG := Lib.hid hRg
  have HS := Lib.hid hs
  clear hR hRg hs
  go_enter Try.func30, Try.ntmps30
  go_wp2
  go_loopw [5, 6] (fun v i wr => ∃ c : Nat, c ≤ 4 ∧ i = .int .i64 c ∧ wr.ownsRow w.heap.size 5 1 v (4 * c) (nL (R.take (4 * c))) ∧ Below w.heap.size w wr)
    (fun _ i _ => 4 - (intOf i).toNat)
  case atStart => exact ⟨0, by omega, rfl, World.ownsRow_nil _ _ _ _, Below.refl _ _⟩
  case round =>
    obtain ⟨c, hc, rfl, hown, hB⟩ := hrel
    by_cases hlt : c < 4
    · have hc1 : (c : Int) < 4 := by omega
      obtain ⟨wo, hwo⟩ : ∃ wo, wo = wr := ⟨_, rfl⟩
      rw [← hwo] at hown hB
      rw [← hwo]
      clear hwo
      go_wp2
      go_loopw [5, 7] (fun v i wq => ∃ r : Nat, r ≤ 4 ∧ i = .int .i64 r ∧ wq.ownsRow w.heap.size 5 1 v (4 * c + r) (nL (R.take (4 * c + r))) ∧ Below w.heap.size w wq)
        (fun _ i _ => 4 - (intOf i).toNat)
      case atStart => exact ⟨0, by omega, rfl, hown, hB⟩
      case round =>
        clear hown hB
        obtain ⟨r, hr, rfl, hown, hB⟩ := hrel
        by_cases hlr : r < 4
        · have hr1 : (r : Int) < 4 := by omega
          obtain ⟨D, hD⟩ : ∃ D : Nat, D = (c + 1 * r) % 4 := ⟨_, rfl⟩
          have ht1 : ((c : Int) + (r : Int)).tmod 4 = (D : Int) := by rw [Int.tmod_eq_emod_of_nonneg (by omega)]; omega
          have ht2 : ((c : Int) + (r : Int)) % 4 = (D : Int) := by omega
          obtain ⟨E, hE⟩ : ∃ E : Nat, E = 4 * D + r := ⟨_, rfl⟩
          have he1 : 4 * (D : Int) + (r : Int) = (E : Int) := by omega
          have hD4 : D < 4 := by omega
          have hEs : E < s.size := by rw [HS.out]; omega
          have hE1 : (E : Int) < (s.size : Int) := by omega
          have ga := btN_get hEs
          have hsu := take_snoc R (4 * c + r) (by rw [HR.out]; omega)
          rw [HRG.out c r hlt hlr, ← hD, ← hE] at hsu
          clear hD hE
          generalize btN s E = z at *
          have HSU := Lib.hid hsu
          clear hsu
          go_wp2_with (at_builtin; refine wpList_append_own _ rfl _ _ 35 rfl w.heap.size 5 i0 (.int .u8 0) 1 1 Try.underlying35 hi hz0 hz1 hz2 rfl (by decide) _ _ _ rfl (hown.alloc _) ⟨wr.heap.size, 0, none⟩ 1 1 [.int .u8 (z : Int)] rfl rfl ?c1 ?c2 ?c3 ?c4 ?c5 ?_)
          case c1 =>
            intro j u hj
            match j, hj with
            | 0, hj => simp at hj; subst hj; simp [Addr.add]
          case c2 => intro u hu; simp only [List.mem_cons, List.not_mem_nil, or_false] at hu; subst hu; rfl
          case c3 => unfold maxLen; omega
          case c4 => omega
          case c5 => have := hB.size; simp; omega
          intro v' w1 hown' hgrow _
          have hB1 : Below w.heap.size w w1 := (hB.alloc hB.size _).grown hgrow (by have := hB.size; simp; omega) (fun g e => (hown.lt g e).1)
          have hown1 : w1.ownsRow w.heap.size 5 1 v' (4 * c + r + 1) (nL (R.take (4 * c + r + 1))) := by
            rw [HSU.out, nL_snoc]
            exact hown'
          clear hown' hgrow hown hB
          go_wp2
          go_roundw
          case rel => exact ⟨r + 1, by omega, by go_num, hown1, hB1⟩
          case measure => simp [intOf]; omega
        · obtain rfl : r = 4 := by omega
          go_wp2
          go_roundw
          case rel => exact ⟨c + 1, by omega, by go_num, hown, hB⟩
          case measure => simp [intOf]; omega
    · obtain rfl : c = 4 := by omega
      rw [List.take_of_length_le (by rw [HR.out]; exact Nat.le_refl _)] at hown
      have hcv := conv_own hown HR.out (by omega)
      generalize hst : strN R = st at hcv
      have HST := Lib.hid hst
      clear hst hown
      go_wp2
      go_ret
      exact ⟨by rw [HST.out]; rfl, hB⟩

set_option maxRecDepth 100000 in
set_option maxHeartbeats 1000000 in
theorem rshifted_3 (s : ByteArray) (w : World) (hs : s.size = 16) :
    Calls Try.prog 30 #[.string s, .int .i64 3] w fun e w' => e = .returned (.string (strN (shiftL (natL s) 3))) ∧ Below w.heap.size w w' := by
  obtain ⟨i0, hi, hz0, hz1, hz2⟩ := infoThree infoU8
  have hR : (shiftL (natL s) 3).length = 16 := by rw [shiftL, List.length_map, List.length_range]
  have hRg : ∀ c r, c < 4 → r < 4 → (shiftL (natL s) 3).getD (4 * c + r) 0 = btN s (4 * ((c + 3 * r) % 4) + r) := fun c r hc hr => by
    rw [shiftL, List.getD_eq_getElem?_getD, List.getElem?_map, List.getElem?_range (by omega)]
    show (natL s).getD (4 * (((4 * c + r) / 4 + 3 * ((4 * c + r) % 4)) % 4) + (4 * c + r) % 4) 0 = _
    rw [show (4 * c + r) / 4 = c by omega, show (4 * c + r) % 4 = r by omega]
    rfl
  generalize shiftL (natL s) 3 = R at *
  have HR := Lib.hid hR
  have HRG := Lib.hid hRg
  have HS := Lib.hid hs
  clear hR hRg hs
  go_enter Try.func30, Try.ntmps30
  go_wp2
  go_loopw [5, 6] (fun v i wr => ∃ c : Nat, c ≤ 4 ∧ i = .int .i64 c ∧ wr.ownsRow w.heap.size 5 1 v (4 * c) (nL (R.take (4 * c))) ∧ Below w.heap.size w wr)
    (fun _ i _ => 4 - (intOf i).toNat)
  case atStart => exact ⟨0, by omega, rfl, World.ownsRow_nil _ _ _ _, Below.refl _ _⟩
  case round =>
    obtain ⟨c, hc, rfl, hown, hB⟩ := hrel
    by_cases hlt : c < 4
    · have hc1 : (c : Int) < 4 := by omega
      obtain ⟨wo, hwo⟩ : ∃ wo, wo = wr := ⟨_, rfl⟩
      rw [← hwo] at hown hB
      rw [← hwo]
      clear hwo
      go_wp2
      go_loopw [5, 7] (fun v i wq => ∃ r : Nat, r ≤ 4 ∧ i = .int .i64 r ∧ wq.ownsRow w.heap.size 5 1 v (4 * c + r) (nL (R.take (4 * c + r))) ∧ Below w.heap.size w wq)
        (fun _ i _ => 4 - (intOf i).toNat)
      case atStart => exact ⟨0, by omega, rfl, hown, hB⟩
      case round =>
        clear hown hB
        obtain ⟨r, hr, rfl, hown, hB⟩ := hrel
        by_cases hlr : r < 4
        · have hr1 : (r : Int) < 4 := by omega
          obtain ⟨D, hD⟩ : ∃ D : Nat, D = (c + 3 * r) % 4 := ⟨_, rfl⟩
          have ht1 : ((c : Int) + 3 * (r : Int)).tmod 4 = (D : Int) := by rw [Int.tmod_eq_emod_of_nonneg (by omega)]; omega
          have ht2 : ((c : Int) + 3 * (r : Int)) % 4 = (D : Int) := by omega
          obtain ⟨E, hE⟩ : ∃ E : Nat, E = 4 * D + r := ⟨_, rfl⟩
          have he1 : 4 * (D : Int) + (r : Int) = (E : Int) := by omega
          have hD4 : D < 4 := by omega
          have hEs : E < s.size := by rw [HS.out]; omega
          have hE1 : (E : Int) < (s.size : Int) := by omega
          have ga := btN_get hEs
          have hsu := take_snoc R (4 * c + r) (by rw [HR.out]; omega)
          rw [HRG.out c r hlt hlr, ← hD, ← hE] at hsu
          clear hD hE
          generalize btN s E = z at *
          have HSU := Lib.hid hsu
          clear hsu
          go_wp2_with (at_builtin; refine wpList_append_own _ rfl _ _ 35 rfl w.heap.size 5 i0 (.int .u8 0) 1 1 Try.underlying35 hi hz0 hz1 hz2 rfl (by decide) _ _ _ rfl (hown.alloc _) ⟨wr.heap.size, 0, none⟩ 1 1 [.int .u8 (z : Int)] rfl rfl ?c1 ?c2 ?c3 ?c4 ?c5 ?_)
          case c1 =>
            intro j u hj
            match j, hj with
            | 0, hj => simp at hj; subst hj; simp [Addr.add]
          case c2 => intro u hu; simp only [List.mem_cons, List.not_mem_nil, or_false] at hu; subst hu; rfl
          case c3 => unfold maxLen; omega
          case c4 => omega
          case c5 => have := hB.size; simp; omega
          intro v' w1 hown' hgrow _
          have hB1 : Below w.heap.size w w1 := (hB.alloc hB.size _).grown hgrow (by have := hB.size; simp; omega) (fun g e => (hown.lt g e).1)
          have hown1 : w1.ownsRow w.heap.size 5 1 v' (4 * c + r + 1) (nL (R.take (4 * c + r + 1))) := by
            rw [HSU.out, nL_snoc]
            exact hown'
          clear hown' hgrow hown hB
          go_wp2
          go_roundw
          case rel => exact ⟨r + 1, by omega, by go_num, hown1, hB1⟩
          case measure => simp [intOf]; omega
        · obtain rfl : r = 4 := by omega
          go_wp2
          go_roundw
          case rel => exact ⟨c + 1, by omega, by go_num, hown, hB⟩
          case measure => simp [intOf]; omega
    · obtain rfl : c = 4 := by omega
      rw [List.take_of_length_le (by rw [HR.out]; exact Nat.le_refl _)] at hown
      have hcv := conv_own hown HR.out (by omega)
      generalize hst : strN R = st at hcv
      have HST := Lib.hid hst
      clear hst hown
      go_wp2
      go_ret
      exact ⟨by rw [HST.out]; rfl, hB⟩
end Go.Proofs.Ytefiecgadbacjaa
namespace Go.Proofs.Ytefiecgadbacjaa
open Go.RowKit Go.Shelf

def PW : List Nat := [1, 3, 5, 15, 17, 51, 85, 255, 26, 46, 114, 150, 161, 248, 19, 53, 95, 225, 56, 72, 216, 115, 149, 164, 247, 2, 6, 10, 30, 34, 102, 170, 229, 52, 92, 228, 55, 89, 235, 38, 106, 190, 217, 112, 144, 171, 230, 49, 83, 245, 4, 12, 20, 60, 68, 204, 79, 209, 104, 184, 211, 110, 178, 205, 76, 212, 103, 169, 224, 59, 77, 215, 98, 166, 241, 8, 24, 40, 120, 136, 131, 158, 185, 208, 107, 189, 220, 127, 129, 152, 179, 206, 73, 219, 118, 154, 181, 196, 87, 249, 16, 48, 80, 240, 11, 29, 39, 105, 187, 214, 97, 163, 254, 25, 43, 125, 135, 146, 173, 236, 47, 113, 147, 174, 233, 32, 96, 160, 251, 22, 58, 78, 210, 109, 183, 194, 93, 231, 50, 86, 250, 21, 63, 65, 195, 94, 226, 61, 71, 201, 64, 192, 91, 237, 44, 116, 156, 191, 218, 117, 159, 186, 213, 100, 172, 239, 42, 126, 130, 157, 188, 223, 122, 142, 137, 128, 155, 182, 193, 88, 232, 35, 101, 175, 234, 37, 111, 177, 200, 67, 197, 84, 252, 31, 33, 99, 165, 244, 7, 9, 27, 45, 119, 153, 176, 203, 70, 202, 69, 207, 74, 222, 121, 139, 134, 145, 168, 227, 62, 66, 198, 81, 243, 14, 18, 54, 90, 238, 41, 123, 141, 140, 143, 138, 133, 148, 167, 242, 13, 23, 57, 75, 221, 124, 132, 151, 162, 253, 28, 36, 108, 180, 199, 82, 246]
theorem pw_len : PW.length = 255 := by kernel_rfl
theorem pw_all : ((List.range 255).all fun i => PW.getD ((i + 1) % 255) 0 == mulN 3 (PW.getD i 0)) = true := by kernel_rfl
theorem pw_next {i : Nat} (h : i < 255) : PW.getD ((i + 1) % 255) 0 = mulN 3 (PW.getD i 0) := by
  have := List.all_eq_true.1 pw_all i (List.mem_range.2 h)
  simpa using this
theorem pw_lt_all : PW.all (fun x => decide (x < 256)) = true := by kernel_rfl
theorem pw_lt (i : Nat) : PW.getD i 0 < 256 := by
  rw [List.getD_eq_getElem?_getD]
  cases h : PW[i]? with
  | none => exact (by decide : (0 : Nat) < 256)
  | some v => simpa using List.all_eq_true.1 pw_lt_all v (List.mem_of_getElem? h)
theorem pw_bent_all : ((List.range 255).all fun i => bentN (PW.getD ((255 - i) % 255) 0) == subN (PW.getD i 0)) = true := by kernel_rfl
theorem pw_bent {i : Nat} (h : i < 255) : bentN (PW.getD ((255 - i) % 255) 0) = subN (PW.getD i 0) := by
  have := List.all_eq_true.1 pw_bent_all i (List.mem_range.2 h)
  simpa using this
/-- a table, filled at the places that a list tells, so many of them. -/
def setF (T idx : List Nat) (k : Nat) : List Nat := (List.range 256).map fun j => if (idx.take k).contains j then T.getD j 0 else 0
theorem setF_len (T idx : List Nat) (k : Nat) : (setF T idx k).length = 256 := by simp [setF]
theorem setF_zero (T idx : List Nat) : setF T idx 0 = zers 256 := by
  apply List.ext_getElem
  · rw [setF_len, zers_len]
  · intro j h1 h2
    simp only [setF, zers, List.getElem_map, List.getElem_replicate, List.take_zero]
    rfl
theorem setF_step (T idx : List Nat) {k : Nat} (h : k < idx.length) : (setF T idx k).set (idx.getD k 0) (T.getD (idx.getD k 0) 0) = setF T idx (k + 1) := by
  apply List.ext_getElem
  · rw [List.length_set, setF_len, setF_len]
  · intro j h1 h2
    rw [List.getElem_set]
    simp only [setF, List.getElem_map, List.getElem_range]
    rw [take_snoc idx k h]
    by_cases e : idx.getD k 0 = j
    · rw [if_pos e, if_pos (by rw [← e]; simp), e]
    · rw [if_neg e]
      have : ((idx.take k ++ [idx.getD k 0]).contains j) = (idx.take k).contains j := by
        rw [List.contains_append]
        have : ([idx.getD k 0].contains j) = false := by simp; exact fun h => e h.symm
        rw [this, Bool.or_false]
      rw [this]
theorem setF_all (T idx : List Nat) {k : Nat} (hT : T.length = 256) (hk : idx.length ≤ k) (h : ∀ j, j < 256 → idx.contains j = true) : setF T idx k = T := by
  apply List.ext_getElem
  · rw [setF_len, hT]
  · intro j h1 h2
    simp only [setF, List.getElem_map, List.getElem_range]
    rw [List.take_of_length_le hk, if_pos (h j (by omega)), List.getD_eq_getElem?_getD, List.getElem?_eq_getElem h2]
    rfl
theorem ts_len : TS.length = 256 := by kernel_rfl
theorem tb_len : TB.length = 256 := by kernel_rfl
theorem idxS_all : all1 (fun j => (0 :: PW).contains j) = true := by kernel_rfl
theorem idxB_all : all1 (fun j => TS.contains j) = true := by kernel_rfl
section
variable {P : Program} {ops : Array Oper} {rest : List Oper} {o : Oper} {a : Act} {w : World} {Q : Exit → Act → World → Prop}
theorem wpList_alloc_nA (hgd : o.guard = none) (ty : TypeId) (ho : o.op = .alloc ty) (X : List Nat) {i : TypeInfo} (hi : P.info? ty = some i) (hz : i.zero = some (.agg (nA X)))
    (h : wpList P ops Q rest (a.put o.dst (.pointer (some ⟨w.heap.size, 0, none⟩))) (w.alloc (.cells (nA X) ty))) : wpList P ops Q (o :: rest) a w := by
  refine wpList_plain hgd fun K hK => ?_
  unfold Oper.wp
  simp [execOp, ho, Instr.alloc, go_sem, zeroValue, typeInfo, hi, hz, Value.cells]
  exact hK _ _ h
end
theorem info256 : ∃ i, Try.prog.info? 56 = some i ∧ i.zero = some (.agg (nA (zers 256))) := by
  have h : (Try.prog.info? 56).map (fun i => (i.zero, i.size, i.bytes)) = some (some (.agg (nA (zers 256))), 256, 256) := by kernel_rfl
  obtain ⟨i, h1, h2, _⟩ := infoThree h
  exact ⟨i, h1, h2⟩
theorem info255 : ∃ i, Try.prog.info? 65 = some i ∧ i.zero = some (.agg (nA (zers 255))) := by
  have h : (Try.prog.info? 65).map (fun i => (i.zero, i.size, i.bytes)) = some (some (.agg (nA (zers 255))), 255, 255) := by kernel_rfl
  obtain ⟨i, h1, h2, _⟩ := infoThree h
  exact ⟨i, h1, h2⟩
theorem size256 : (Try.prog.info? 56).map (·.size) = some 256 := by kernel_rfl
end Go.Proofs.Ytefiecgadbacjaa
namespace Go.Proofs.Ytefiecgadbacjaa
open Go.RowKit Go.Shelf

theorem mixL_len (S : List Nat) : (mixL S).length = 16 := rfl
theorem mixL_step (S : List Nat) {c : Nat} (h : c < 4) : (mixL S).take (4 * (c + 1)) = (mixL S).take (4 * c) ++ (mixC (colN S c)).nl := by
  match c, h with
  | 0, _ => rfl
  | 1, _ => rfl
  | 2, _ => rfl
  | 3, _ => rfl
theorem ownsRow_belowW {W W' : World} {base k : Nat} {e : TypeId} {size : Nat} {v : Value} {xs : List Value} (h : W.ownsRow base e size v k xs) (hb : Below W.heap.size W W') : W'.ownsRow base e size v k xs :=
  h.kept (row := none) ⟨hb.os, hb.tape, hb.output, hb.size, fun k hk _ => hb.block k hk⟩ (by cases v.ownBlock with | none => exact .inl rfl | some g => exact .inr (by simp))
theorem grownCells (b : Nat) : ∀ (vs : List Value) (W : World) (o : Nat), W.grownBy (W.setCells b o vs) (some b)
  | [], W, _ => ⟨rfl, rfl, rfl, Nat.le_refl _, fun _ _ _ => rfl⟩
  | v :: r, W, o => by
    have h := grownCells b r (W.setCell ⟨b, o, none⟩ v) (o + 1)
    refine ⟨h.os, h.tape, h.output, by have := h.size; rwa [show (W.setCell ⟨b, o, none⟩ v).heap.size = W.heap.size by simp] at this, fun k hk hne => ?_⟩
    exact (h.block k (by simpa using hk) hne).trans (heap_setCell_other W ⟨b, o, none⟩ k v (fun e => hne (by rw [e])))
theorem ownsRow_farCells {W : World} {base k b : Nat} {e : TypeId} {size : Nat} {v : Value} {xs : List Value} (h : W.ownsRow base e size v k xs) (hne : v.ownBlock = some b → False) (o : Nat) (vs : List Value) : (W.setCells b o vs).ownsRow base e size v k xs :=
  h.kept (grownCells b vs W o) (.inr hne)

set_option maxRecDepth 100000 in
set_option maxHeartbeats 2000000 in
theorem rmixed_any (s : ByteArray) (w : World) (hs : s.size = 16) :
    Calls Try.prog 32 #[.string s] w fun e w' => e = .returned (.string (strN (mixL (natL s)))) ∧ Below w.heap.size w w' := by
  obtain ⟨i0, hi, hz0, hz1, hz2⟩ := infoThree infoU8
  have HR := Lib.hid (mixL_len (natL s))
  have HST := Lib.hid (fun c (h : c < 4) => mixL_step (natL s) h)
  have HS := Lib.hid hs
  have HB := Lib.hid (natL_lt s)
  obtain ⟨L, hL⟩ : ∃ L, L = natL s := ⟨_, rfl⟩
  have HL := Lib.hid hL
  rw [← hL] at HR HST
  rw [show strN (mixL (natL s)) = strN (mixL L) by rw [hL]]
  generalize mixL L = R at *
  clear hs hL
  go_enter Try.func32, Try.ntmps32
  go_wp2
  go_loopw [3, 4] (fun v i wr => ∃ c : Nat, c ≤ 4 ∧ i = .int .i64 c ∧ wr.ownsRow w.heap.size 5 1 v (4 * c) (nL (R.take (4 * c))) ∧ Below w.heap.size w wr)
    (fun _ i _ => 4 - (intOf i).toNat)
  case atStart => exact ⟨0, by omega, rfl, World.ownsRow_nil _ _ _ _, Below.refl _ _⟩
  case round =>
    obtain ⟨c, hc, rfl, hown, hB⟩ := hrel
    by_cases hlt : c < 4
    · have hc1 : (c : Int) < 4 := by omega
      obtain ⟨E0, hE0⟩ : ∃ E0 : Nat, E0 = 4 * c := ⟨_, rfl⟩
      obtain ⟨E1, hE1⟩ : ∃ E1 : Nat, E1 = 4 * c + 1 := ⟨_, rfl⟩
      obtain ⟨E2, hE2⟩ : ∃ E2 : Nat, E2 = 4 * c + 2 := ⟨_, rfl⟩
      obtain ⟨E3, hE3⟩ : ∃ E3 : Nat, E3 = 4 * c + 3 := ⟨_, rfl⟩
      have l0 : E0 < s.size := by rw [HS.out]; omega
      have l1 : E1 < s.size := by rw [HS.out]; omega
      have l2 : E2 < s.size := by rw [HS.out]; omega
      have l3 : E3 < s.size := by rw [HS.out]; omega
      have g0 := btN_get l0
      have g1 := btN_get l1
      have g2 := btN_get l2
      have g3 := btN_get l3
      have k0 : (E0 : Int) < (s.size : Int) := by omega
      have k1 : (E1 : Int) < (s.size : Int) := by omega
      have k2 : (E2 : Int) < (s.size : Int) := by omega
      have k3 : (E3 : Int) < (s.size : Int) := by omega
      have f0 : 4 * (c : Int) = (E0 : Int) := by omega
      have f1 : (E0 : Int) + 1 = (E1 : Int) := by omega
      have f2 : (E0 : Int) + 2 = (E2 : Int) := by omega
      have f3 : (E0 : Int) + 3 = (E3 : Int) := by omega
      have v0 := IntWalk.i64_in (E0 : Int) (by rw [HS.out] at l0; omega)
      have v1 := IntWalk.i64_in (E1 : Int) (by rw [HS.out] at l1; omega)
      have v2 := IntWalk.i64_in (E2 : Int) (by rw [HS.out] at l2; omega)
      have v3 := IntWalk.i64_in (E3 : Int) (by rw [HS.out] at l3; omega)
      have hcol : colN L c = ⟨btN s E0, btN s E1, btN s E2, btN s E3⟩ := by rw [HL.out, hE0, hE1, hE2, hE3]; rfl
      have hst := HST.out c hlt
      rw [hcol] at hst
      have mx := fun w => rmix_any ⟨btN s E0, btN s E1, btN s E2, btN s E3⟩ w ⟨btN_lt s _, btN_lt s _, btN_lt s _, btN_lt s _⟩
      clear hcol hE0 hE1 hE2 hE3
      generalize btN s E0 = x0 at *
      generalize btN s E1 = x1 at *
      generalize btN s E2 = x2 at *
      generalize btN s E3 = x3 at *
      generalize mixC ⟨x0, x1, x2, x3⟩ = M at *
      obtain ⟨m0, m1, m2, m3⟩ := M
      have MX := Lib.hid mx
      have HST1 := Lib.hid (show nL (R.take (4 * (c + 1))) = nL (R.take (4 * c)) ++ nL [m0, m1, m2, m3] by rw [hst, nL, nL, nL, List.map_append]; rfl)
      clear mx hst
      have hownD : wr.drew.ownsRow w.heap.size 5 1 u3 (4 * c) (nL (R.take (4 * c))) := hown
      have hBD : Below w.heap.size w wr.drew := belowN hB 1
      go_wp2
      go_cut [5] (fun p W => ∃ B5 : Nat, p = .pointer (some ⟨B5, 0, none⟩) ∧ Is W B5 73 (nA [m0, m1, m2, m3]) ∧ W.ownsRow w.heap.size 5 1 u3 (4 * c) (nL (R.take (4 * c))) ∧ Below w.heap.size w W)
      case first =>
        refine wp_region_held_drew (S := fun _ => True) (by kernel_rfl) trivial (fun hS => ?_)
        change wpAnyH _ _ (opsOf Try.f32 5) _ _ 23 (Array.replicate 23 false) _ _
        refine wpAnyH_pure (i := 0) (o := { dst := some 10, op := Op.move (Operand.tmp 0), type := 9, pos := "ref.go:73", after := #[], guard := none }) (v := .string s) (by kernel_rfl) (by kernel_rfl) (by kernel_rfl) (by kernel_rfl) (fun _ _ _ h => h) (by kernel_rfl) (fun w hSw => by kernel_rfl) hS ?_
        simp only [Act.put, List.setIfInBounds_toArray, List.set_cons_succ, List.set_cons_zero]
        refine wpAnyH_pure (i := 1) (o := { dst := some 11, op := Op.move (Operand.tmp 4), type := 3, pos := "ref.go:73", after := #[], guard := none }) (v := .int .i64 (c : Int)) (by kernel_rfl) (by kernel_rfl) (by kernel_rfl) (by kernel_rfl) (fun _ _ _ h => h) (by kernel_rfl) (fun w hSw => by kernel_rfl) hS ?_
        simp only [Act.put, List.setIfInBounds_toArray, List.set_cons_succ, List.set_cons_zero]
        refine wpAnyH_pure (i := 2) (o := { dst := some 12, op := Op.binOp BinOp.mul 3 (Operand.const (Value.int IntKind.i64 4)) (Operand.tmp 11) 3, type := 3, pos := "ref.go:73", after := #[{ on := 1, ground := Ground.data }], guard := none }) (v := .int .i64 (E0 : Int)) (by kernel_rfl) (by kernel_rfl) (by kernel_rfl) (by kernel_rfl) (fun _ _ _ h => h) (by kernel_rfl) (fun w hSw => by go_simp) hS ?_
        simp only [Act.put, List.setIfInBounds_toArray, List.set_cons_succ, List.set_cons_zero]
        refine wpAnyH_pure (i := 3) (o := { dst := some 13, op := Op.index 9 (Operand.tmp 10) (Operand.tmp 12), type := 5, pos := "ref.go:73", after := #[{ on := 0, ground := Ground.data }, { on := 2, ground := Ground.data }], guard := none }) (v := .int .u8 (x0 : Int)) (by kernel_rfl) (by kernel_rfl) (by kernel_rfl) (by kernel_rfl) (fun _ _ _ h => h) (by kernel_rfl) (fun w hSw => by go_simp) hS ?_
        simp only [Act.put, List.setIfInBounds_toArray, List.set_cons_succ, List.set_cons_zero]
        refine wpAnyH_pure (i := 4) (o := { dst := some 14, op := Op.move (Operand.tmp 0), type := 9, pos := "ref.go:73", after := #[], guard := none }) (v := .string s) (by kernel_rfl) (by kernel_rfl) (by kernel_rfl) (by kernel_rfl) (fun _ _ _ h => h) (by kernel_rfl) (fun w hSw => by kernel_rfl) hS ?_
        simp only [Act.put, List.setIfInBounds_toArray, List.set_cons_succ, List.set_cons_zero]
        refine wpAnyH_pure (i := 5) (o := { dst := some 15, op := Op.move (Operand.tmp 4), type := 3, pos := "ref.go:73", after := #[], guard := none }) (v := .int .i64 (c : Int)) (by kernel_rfl) (by kernel_rfl) (by kernel_rfl) (by kernel_rfl) (fun _ _ _ h => h) (by kernel_rfl) (fun w hSw => by kernel_rfl) hS ?_
        simp only [Act.put, List.setIfInBounds_toArray, List.set_cons_succ, List.set_cons_zero]
        refine wpAnyH_pure (i := 6) (o := { dst := some 16, op := Op.binOp BinOp.mul 3 (Operand.const (Value.int IntKind.i64 4)) (Operand.tmp 15) 3, type := 3, pos := "ref.go:73", after := #[{ on := 5, ground := Ground.data }], guard := none }) (v := .int .i64 (E0 : Int)) (by kernel_rfl) (by kernel_rfl) (by kernel_rfl) (by kernel_rfl) (fun _ _ _ h => h) (by kernel_rfl) (fun w hSw => by go_simp) hS ?_
        simp only [Act.put, List.setIfInBounds_toArray, List.set_cons_succ, List.set_cons_zero]
        refine wpAnyH_pure (i := 7) (o := { dst := some 17, op := Op.binOp BinOp.add 3 (Operand.tmp 16) (Operand.const (Value.int IntKind.i64 1)) 3, type := 3, pos := "ref.go:73", after := #[{ on := 6, ground := Ground.data }], guard := none }) (v := .int .i64 (E1 : Int)) (by kernel_rfl) (by kernel_rfl) (by kernel_rfl) (by kernel_rfl) (fun _ _ _ h => h) (by kernel_rfl) (fun w hSw => by go_simp) hS ?_
        simp only [Act.put, List.setIfInBounds_toArray, List.set_cons_succ, List.set_cons_zero]
        refine wpAnyH_pure (i := 8) (o := { dst := some 18, op := Op.index 9 (Operand.tmp 14) (Operand.tmp 17), type := 5, pos := "ref.go:73", after := #[{ on := 4, ground := Ground.data }, { on := 7, ground := Ground.data }], guard := none }) (v := .int .u8 (x1 : Int)) (by kernel_rfl) (by kernel_rfl) (by kernel_rfl) (by kernel_rfl) (fun _ _ _ h => h) (by kernel_rfl) (fun w hSw => by go_simp) hS ?_
        simp only [Act.put, List.setIfInBounds_toArray, List.set_cons_succ, List.set_cons_zero]
        refine wpAnyH_pure (i := 9) (o := { dst := some 19, op := Op.move (Operand.tmp 0), type := 9, pos := "ref.go:73", after := #[], guard := none }) (v := .string s) (by kernel_rfl) (by kernel_rfl) (by kernel_rfl) (by kernel_rfl) (fun _ _ _ h => h) (by kernel_rfl) (fun w hSw => by kernel_rfl) hS ?_
        simp only [Act.put, List.setIfInBounds_toArray, List.set_cons_succ, List.set_cons_zero]
        refine wpAnyH_pure (i := 10) (o := { dst := some 20, op := Op.move (Operand.tmp 4), type := 3, pos := "ref.go:73", after := #[], guard := none }) (v := .int .i64 (c : Int)) (by kernel_rfl) (by kernel_rfl) (by kernel_rfl) (by kernel_rfl) (fun _ _ _ h => h) (by kernel_rfl) (fun w hSw => by kernel_rfl) hS ?_
        simp only [Act.put, List.setIfInBounds_toArray, List.set_cons_succ, List.set_cons_zero]
        refine wpAnyH_pure (i := 11) (o := { dst := some 21, op := Op.binOp BinOp.mul 3 (Operand.const (Value.int IntKind.i64 4)) (Operand.tmp 20) 3, type := 3, pos := "ref.go:73", after := #[{ on := 10, ground := Ground.data }], guard := none }) (v := .int .i64 (E0 : Int)) (by kernel_rfl) (by kernel_rfl) (by kernel_rfl) (by kernel_rfl) (fun _ _ _ h => h) (by kernel_rfl) (fun w hSw => by go_simp) hS ?_
        simp only [Act.put, List.setIfInBounds_toArray, List.set_cons_succ, List.set_cons_zero]
        refine wpAnyH_pure (i := 12) (o := { dst := some 22, op := Op.binOp BinOp.add 3 (Operand.tmp 21) (Operand.const (Value.int IntKind.i64 2)) 3, type := 3, pos := "ref.go:73", after := #[{ on := 11, ground := Ground.data }], guard := none }) (v := .int .i64 (E2 : Int)) (by kernel_rfl) (by kernel_rfl) (by kernel_rfl) (by kernel_rfl) (fun _ _ _ h => h) (by kernel_rfl) (fun w hSw => by go_simp) hS ?_
        simp only [Act.put, List.setIfInBounds_toArray, List.set_cons_succ, List.set_cons_zero]
        refine wpAnyH_pure (i := 13) (o := { dst := some 23, op := Op.index 9 (Operand.tmp 19) (Operand.tmp 22), type := 5, pos := "ref.go:73", after := #[{ on := 9, ground := Ground.data }, { on := 12, ground := Ground.data }], guard := none }) (v := .int .u8 (x2 : Int)) (by kernel_rfl) (by kernel_rfl) (by kernel_rfl) (by kernel_rfl) (fun _ _ _ h => h) (by kernel_rfl) (fun w hSw => by go_simp) hS ?_
        simp only [Act.put, List.setIfInBounds_toArray, List.set_cons_succ, List.set_cons_zero]
        refine wpAnyH_pure (i := 14) (o := { dst := some 24, op := Op.move (Operand.tmp 0), type := 9, pos := "ref.go:73", after := #[], guard := none }) (v := .string s) (by kernel_rfl) (by kernel_rfl) (by kernel_rfl) (by kernel_rfl) (fun _ _ _ h => h) (by kernel_rfl) (fun w hSw => by kernel_rfl) hS ?_
        simp only [Act.put, List.setIfInBounds_toArray, List.set_cons_succ, List.set_cons_zero]
        refine wpAnyH_pure (i := 15) (o := { dst := some 25, op := Op.move (Operand.tmp 4), type := 3, pos := "ref.go:73", after := #[], guard := none }) (v := .int .i64 (c : Int)) (by kernel_rfl) (by kernel_rfl) (by kernel_rfl) (by kernel_rfl) (fun _ _ _ h => h) (by kernel_rfl) (fun w hSw => by kernel_rfl) hS ?_
        simp only [Act.put, List.setIfInBounds_toArray, List.set_cons_succ, List.set_cons_zero]
        refine wpAnyH_pure (i := 16) (o := { dst := some 26, op := Op.binOp BinOp.mul 3 (Operand.const (Value.int IntKind.i64 4)) (Operand.tmp 25) 3, type := 3, pos := "ref.go:73", after := #[{ on := 15, ground := Ground.data }], guard := none }) (v := .int .i64 (E0 : Int)) (by kernel_rfl) (by kernel_rfl) (by kernel_rfl) (by kernel_rfl) (fun _ _ _ h => h) (by kernel_rfl) (fun w hSw => by go_simp) hS ?_
        simp only [Act.put, List.setIfInBounds_toArray, List.set_cons_succ, List.set_cons_zero]
        refine wpAnyH_pure (i := 17) (o := { dst := some 27, op := Op.binOp BinOp.add 3 (Operand.tmp 26) (Operand.const (Value.int IntKind.i64 3)) 3, type := 3, pos := "ref.go:73", after := #[{ on := 16, ground := Ground.data }], guard := none }) (v := .int .i64 (E3 : Int)) (by kernel_rfl) (by kernel_rfl) (by kernel_rfl) (by kernel_rfl) (fun _ _ _ h => h) (by kernel_rfl) (fun w hSw => by go_simp) hS ?_
        simp only [Act.put, List.setIfInBounds_toArray, List.set_cons_succ, List.set_cons_zero]
        refine wpAnyH_pure (i := 18) (o := { dst := some 28, op := Op.index 9 (Operand.tmp 24) (Operand.tmp 27), type := 5, pos := "ref.go:73", after := #[{ on := 14, ground := Ground.data }, { on := 17, ground := Ground.data }], guard := none }) (v := .int .u8 (x3 : Int)) (by kernel_rfl) (by kernel_rfl) (by kernel_rfl) (by kernel_rfl) (fun _ _ _ h => h) (by kernel_rfl) (fun w hSw => by go_simp) hS ?_
        simp only [Act.put, List.setIfInBounds_toArray, List.set_cons_succ, List.set_cons_zero]
        refine wpAnyH_pure (i := 19) (o := { dst := some 29, op := Op.build 73 #[(0, Operand.tmp 13), (1, Operand.tmp 18), (2, Operand.tmp 23), (3, Operand.tmp 28)], type := 73, pos := "ref.go:73", after := #[{ on := 3, ground := Ground.data }, { on := 8, ground := Ground.data }, { on := 13, ground := Ground.data }, { on := 18, ground := Ground.data }], guard := none }) (v := .agg (C4.arr ⟨x0, x1, x2, x3⟩)) (by kernel_rfl) (by kernel_rfl) (by kernel_rfl) (by kernel_rfl) (fun _ _ _ h => h) (by kernel_rfl) (fun w hSw => by kernel_rfl) hS ?_
        simp only [Act.put, List.setIfInBounds_toArray, List.set_cons_succ, List.set_cons_zero]
        refine wpAnyH_next2 (i := 20) (j := 21) (o := { dst := some 30, op := Op.call { callee := Callee.value (Operand.func 48), args := #[Operand.tmp 29], argTypes := #[73] }, type := 73, pos := "ref.go:73", after := #[{ on := 19, ground := Ground.data }], guard := none }) (o2 := { dst := some 5, op := Op.alloc 73, type := 0, pos := "ref.go:73", after := #[], guard := none }) (by kernel_rfl) (by kernel_rfl) (by kernel_rfl) (fun Kc hKc => ?_) (fun Kc hKc => ?_)
        · rw [if_pos (by kernel_rfl)]
          unfold Oper.wp
          rw [show (execOp _ _).run Try.prog wr.drew = .ok (.enter 48 #[.agg (C4.arr ⟨x0, x1, x2, x3⟩)]) wr.drew by kernel_rfl, Oper.upon_enter]
          refine (MX.out _).mono ?_
          rintro e w3 ⟨rfl, hb3⟩
          refine hKc.out _ _ trivial (fun _ => ?_)
          clear hKc Kc
          simp only [Act.put, List.setIfInBounds_toArray, List.set_cons_succ, List.set_cons_zero]
          have hB3 : Below w.heap.size w w3 := hBD.trans (hb3.mono hBD.size)
          have hown3 := ownsRow_belowW hownD hb3
          have hth : (w3.alloc (.cells (nA [0, 0, 0, 0]) 73)).there w3.heap.size 0 4 := nA_there (Is.new w3 73 (nA [0, 0, 0, 0])) 0 4 (by decide)
          refine wpAnyH_step (i := 21) (o := { dst := some 5, op := Op.alloc 73, type := 0, pos := "ref.go:73", after := #[], guard := none }) (by kernel_rfl) (by kernel_rfl) (by kernel_rfl) (fun Kc hKc => ?_)
          go_simp
          refine hKc.out _ _ trivial (fun _ => ?_)
          clear hKc Kc
          try simp only [Act.put, List.setIfInBounds_toArray, List.set_cons_succ, List.set_cons_zero]
          refine wpAnyH_storemid (i := 22) (o := { dst := none, op := Op.store 73 (Operand.tmp 5) (Operand.tmp 30), type := 0, pos := "ref.go:73", after := #[{ on := 21, ground := Ground.data }, { on := 20, ground := Ground.data }, { on := 20, ground := Ground.chain }, { on := 0, ground := Ground.phase }, { on := 1, ground := Ground.phase }, { on := 2, ground := Ground.phase }, { on := 3, ground := Ground.phase }, { on := 4, ground := Ground.phase }, { on := 5, ground := Ground.phase }, { on := 6, ground := Ground.phase }, { on := 7, ground := Ground.phase }, { on := 8, ground := Ground.phase }, { on := 9, ground := Ground.phase }, { on := 10, ground := Ground.phase }, { on := 11, ground := Ground.phase }, { on := 12, ground := Ground.phase }, { on := 13, ground := Ground.phase }, { on := 14, ground := Ground.phase }, { on := 15, ground := Ground.phase }, { on := 16, ground := Ground.phase }, { on := 17, ground := Ground.phase }, { on := 18, ground := Ground.phase }, { on := 19, ground := Ground.phase }, { on := 20, ground := Ground.phase }, { on := 21, ground := Ground.phase }], guard := none }) (b := w3.heap.size) (off := 0) (cs := nA ([m0, m1, m2, m3])) (by kernel_rfl) (by kernel_rfl) (by kernel_rfl) rfl (by kernel_rfl) (by kernel_rfl) hth info4 (nA_one _) trivial ?_
          simp only [Act.put]
          refine wpAnyH_done (by kernel_rfl) ?_ _
          go_wp2_with fail
          go_meet
          exact ⟨w3.heap.size, rfl, Is.setCells (nL [m0, m1, m2, m3]) 0 (Is.new w3 73 (nA [0, 0, 0, 0])), ownsRow_farCells (hown3.alloc _) (fun e => by have := (hown3.lt _ e).2; omega) _ _, belowCells hB3.size _ _ (hB3.alloc hB3.size _)⟩
        · rw [if_pos (by kernel_rfl)]
          go_simp
          refine hKc.out _ _ trivial (fun _ => ?_)
          clear hKc Kc
          try simp only [Act.put, List.setIfInBounds_toArray, List.set_cons_succ, List.set_cons_zero]
          have iA : Is (wr.drew.alloc (.cells (nA [0, 0, 0, 0]) 73)) wr.heap.size 73 (nA [0, 0, 0, 0]) := Is.new wr.drew _ _
          have hBA := hBD.alloc hBD.size (.cells (nA [0, 0, 0, 0]) 73)
          have hownA := hownD.alloc (.cells (nA [0, 0, 0, 0]) 73)
          have hlo : ∀ g, u3.ownBlock = some g → g < wr.heap.size := fun g e => (hown.lt g e).2
          have hwr : w.heap.size ≤ wr.heap.size := hB.size
          refine wpAnyH_call (i := 20) (o := { dst := some 30, op := Op.call { callee := Callee.value (Operand.func 48), args := #[Operand.tmp 29], argTypes := #[73] }, type := 73, pos := "ref.go:73", after := #[{ on := 19, ground := Ground.data }], guard := none }) (by kernel_rfl) (by kernel_rfl) (by kernel_rfl) (fun w => by kernel_rfl) ((MX.out _).mono ?_)
          rintro e w3 ⟨rfl, hb3⟩
          have iA3 := iA.below hb3 iA.lt
          have hB3 : Below w.heap.size w w3 := hBA.trans (hb3.mono hBA.size)
          have hown3 := ownsRow_belowW hownA hb3
          have hth := nA_there iA3 0 4 (by decide)
          refine ⟨_, rfl, trivial, ?_⟩
          try simp only [Act.put, List.setIfInBounds_toArray, List.set_cons_succ, List.set_cons_zero]
          refine wpAnyH_storemid (i := 22) (o := { dst := none, op := Op.store 73 (Operand.tmp 5) (Operand.tmp 30), type := 0, pos := "ref.go:73", after := #[{ on := 21, ground := Ground.data }, { on := 20, ground := Ground.data }, { on := 20, ground := Ground.chain }, { on := 0, ground := Ground.phase }, { on := 1, ground := Ground.phase }, { on := 2, ground := Ground.phase }, { on := 3, ground := Ground.phase }, { on := 4, ground := Ground.phase }, { on := 5, ground := Ground.phase }, { on := 6, ground := Ground.phase }, { on := 7, ground := Ground.phase }, { on := 8, ground := Ground.phase }, { on := 9, ground := Ground.phase }, { on := 10, ground := Ground.phase }, { on := 11, ground := Ground.phase }, { on := 12, ground := Ground.phase }, { on := 13, ground := Ground.phase }, { on := 14, ground := Ground.phase }, { on := 15, ground := Ground.phase }, { on := 16, ground := Ground.phase }, { on := 17, ground := Ground.phase }, { on := 18, ground := Ground.phase }, { on := 19, ground := Ground.phase }, { on := 20, ground := Ground.phase }, { on := 21, ground := Ground.phase }], guard := none }) (b := wr.heap.size) (off := 0) (cs := nA ([m0, m1, m2, m3])) (by kernel_rfl) (by kernel_rfl) (by kernel_rfl) rfl (by kernel_rfl) (by kernel_rfl) hth info4 (nA_one _) trivial ?_
          simp only [Act.put]
          refine wpAnyH_done (by kernel_rfl) ?_ _
          go_wp2_with fail
          go_meet
          exact ⟨wr.heap.size, rfl, Is.setCells (nL [m0, m1, m2, m3]) 0 iA3, ownsRow_farCells hown3 (fun e => by have := hlo _ e; omega) _ _, belowCells hwr _ _ hB3⟩
      case rest =>
        obtain ⟨B5, rfl, iM, hownC, hBC⟩ := hcut
        clear g0 g1 g2 g3 k0 k1 k2 k3 f0 f1 f2 f3 v0 v1 v2 v3 l0 l1 l2 l3 MX hown hB hownD hBD
        have c0 : wc.cell? ⟨B5, 0, none⟩ = some (.int .u8 (m0 : Int)) := iM.cell 0
        have c1 : wc.cell? ⟨B5, 1, none⟩ = some (.int .u8 (m1 : Int)) := iM.cell 1
        have c2 : wc.cell? ⟨B5, 2, none⟩ = some (.int .u8 (m2 : Int)) := iM.cell 2
        have c3 : wc.cell? ⟨B5, 3, none⟩ = some (.int .u8 (m3 : Int)) := iM.cell 3
        go_wp2_with (at_builtin; refine wpList_append_own _ rfl _ _ 35 rfl w.heap.size 5 i0 (.int .u8 0) 1 1 Try.underlying35 hi hz0 hz1 hz2 rfl (by decide) _ _ _ rfl (hownC.alloc _) ⟨wc.heap.size, 0, none⟩ 4 4 (nL [m0, m1, m2, m3]) rfl rfl ?c1 ?c2 ?c3 ?c4 ?c5 ?_)
        case c1 =>
          intro j u hj
          match j, hj with
          | 0, hj => simp [nL] at hj; subst hj; simp [Addr.add]
          | 1, hj => simp [nL] at hj; subst hj; simp [Addr.add]
          | 2, hj => simp [nL] at hj; subst hj; simp [Addr.add]
          | 3, hj => simp [nL] at hj; subst hj; simp [Addr.add]
        case c2 =>
          intro u hu
          obtain ⟨x, _, rfl⟩ := List.mem_map.1 hu
          rfl
        case c3 => unfold maxLen; omega
        case c4 => omega
        case c5 => have := hBC.size; simp; omega
        intro v' w1 hown' hgrow _
        have hB1 : Below w.heap.size w w1 := (hBC.alloc hBC.size _).grown hgrow (by have := hBC.size; simp; omega) (fun g e => (hownC.lt g e).1)
        have hown1 : w1.ownsRow w.heap.size 5 1 v' (4 * (c + 1)) (nL (R.take (4 * (c + 1)))) := by
          rw [HST1.out]
          exact hown'
        clear hown' hgrow hownC hBC
        go_wp2
        go_roundw
        case rel => exact ⟨c + 1, by omega, by go_num, hown1, hB1⟩
        case measure => simp [intOf]; omega
    · obtain rfl : c = 4 := by omega
      rw [List.take_of_length_le (by rw [HR.out]; exact Nat.le_refl _)] at hown
      have hcv := conv_own hown HR.out (by omega)
      generalize hst : strN R = st at hcv
      have HST2 := Lib.hid hst
      clear hst hown
      go_wp2
      go_ret
      exact ⟨by rw [HST2.out]; rfl, hB⟩
end Go.Proofs.Ytefiecgadbacjaa
namespace Go.Proofs.Ytefiecgadbacjaa
open Go.RowKit Go.Shelf

set_option maxRecDepth 100000 in
set_option maxHeartbeats 2000000 in
theorem rsubs_any (w : World) :
    Calls Try.prog 21 #[] w fun e w' => e = .returned (.agg (nA TS)) ∧ Below w.heap.size w w' := by
  obtain ⟨i6, hi6, hz6⟩ := info256
  obtain ⟨i7, hi7, hz7⟩ := info255
  have be0 := fun w => rbent_any 0 w (by decide)
  rw [show bentN 0 = TS.getD 0 0 by kernel_rfl] at be0
  have BE0 := Lib.hid be0
  have HPZ := Lib.hid (show PW.length = (zers 255).length by rw [pw_len, zers_len])
  clear be0
  go_enter Try.func21, Try.ntmps21
  go_wp2_with (first
    | (refine wpList_alloc_nA rfl 56 rfl (zers 256) hi6 hz6 ?_)
    | (refine wpList_alloc_nA rfl 65 rfl (zers 255) hi7 hz7 ?_))
  have iR : Is ((w.alloc (.cells (nA (zers 256)) 56)).alloc (.cells (nA (zers 255)) 65)) w.heap.size 56 (nA (zers 256)) := (Is.new w _ _).alloc _
  have iP : Is ((w.alloc (.cells (nA (zers 256)) 56)).alloc (.cells (nA (zers 255)) 65)) (w.heap.size + 1) 65 (nA (zers 255)) := heap_alloc2_new w _ _
  have hB0 : Below w.heap.size w ((w.alloc (.cells (nA (zers 256)) 56)).alloc (.cells (nA (zers 255)) 65)) := ((Below.refl _ _).alloc (Nat.le_refl _) _).alloc (by simp) _
  generalize ((w.alloc (.cells (nA (zers 256)) 56)).alloc (.cells (nA (zers 255)) 65)) = W0 at *
  obtain ⟨Br, hBr⟩ : ∃ Br, Br = w.heap.size := ⟨_, rfl⟩
  obtain ⟨Bp, hBp⟩ : ∃ Bp, Bp = w.heap.size + 1 := ⟨_, rfl⟩
  rw [← hBp, ← hBr]
  rw [← hBr] at iR
  rw [← hBp] at iP
  have q1 : w.heap.size ≤ Bp := by omega
  have q2 : w.heap.size ≤ Br := by omega
  have q3 : Br ≠ Bp := by omega
  clear hBr hBp
  go_loopw [2, 3] (fun x i wr => ∃ k : Nat, k ≤ 255 ∧ i = .int .i64 (k : Int) ∧ x = .int .u8 ((PW.getD (k % 255) 0 : Nat) : Int) ∧ Is wr Bp 65 (nA (thru PW (zers 255) k)) ∧ Is wr Br 56 (nA (zers 256)) ∧ Below w.heap.size w wr)
    (fun _ i _ => 255 - (intOf i).toNat)
  case atStart => exact ⟨0, by omega, rfl, rfl, by rw [thru_zero]; exact iP, iR, hB0⟩
  case round =>
    clear iP iR hB0
    obtain ⟨k, hk, rfl, rfl, iP, iR, hB⟩ := hrel
    by_cases hlt : k < 255
    · have hi1 : (k : Int) < 255 := by omega
      have hi0 : (0 : Int) ≤ (k : Int) := by omega
      rw [show k % 255 = k by omega]
      have hst := thru_set HPZ.out (n := k) (by rw [zers_len]; exact hlt)
      have hs2 := nA_set (thru PW (zers 255) k) k (PW.getD k 0)
      rw [hst] at hs2
      have HST := Lib.hid hs2
      have mu := fun w => rmul_any 3 (PW.getD k 0) w (by decide) (pw_lt k)
      rw [← pw_next hlt] at mu
      have cP : (wr.cell? ⟨Bp, k, none⟩).isSome = true := by rw [iP.cell, nA_get _ _ (by rw [thru_len HPZ.out, zers_len]; exact hlt)]; rfl
      obtain ⟨vP, cP⟩ := Option.isSome_iff_exists.1 cP
      have fP := iP.frozen k
      clear hst hs2
      generalize PW.getD k 0 = x at *
      generalize hy : PW.getD ((k + 1) % 255) 0 = y at *
      have HY := Lib.hid hy
      have MU := Lib.hid mu
      clear mu hy
      go_wp2_with fail
      refine (MU.out _).mono ?_
      rintro e w1 ⟨rfl, rfl⟩
      have jP : Is (wr.setCell ⟨Bp, k, none⟩ (.int .u8 (x : Int))) Bp 65 (nA (thru PW (zers 255) (k + 1))) := by
        have := iP.set k (.int .u8 (x : Int))
        rw [HST.out] at this
        exact this
      have jR := iR.far (p := ⟨Bp, k, none⟩) q3 (.int .u8 (x : Int))
      have jB := hB.setCell (p := ⟨Bp, k, none⟩) q1 (.int .u8 (x : Int))
      clear cP fP iP iR hB
      go_wp2
      go_roundw
      case rel => exact ⟨k + 1, by omega, by go_num, by rw [HY.out], jP, jR, jB⟩
      case measure => simp [intOf]; omega
    · obtain rfl : k = 255 := by omega
      rw [thru_all HPZ.out (by rw [zers_len]; omega)] at iP
      have iO : Is (wr.alloc (.cells (nA (zers 256)) 56)) wr.heap.size 56 (nA (zers 256)) := Is.new wr _ _
      have iP0 := iP.alloc (.cells (nA (zers 256)) 56)
      have iR0 := iR.alloc (.cells (nA (zers 256)) 56)
      have hB0 := hB.alloc hB.size (.cells (nA (zers 256)) 56)
      have q4 : Br ≠ wr.heap.size := by have := iR.lt; omega
      have q5 : Bp ≠ wr.heap.size := by have := iP.lt; omega
      have q6 : w.heap.size ≤ wr.heap.size := hB.size
      obtain ⟨wo, hwo⟩ : ∃ wo, wo = wr.alloc (.cells (nA (zers 256)) 56) := ⟨_, rfl⟩
      rw [← hwo] at iO iP0 iR0 hB0
      have HWO := Lib.hid hwo
      clear hwo iP iR hB
      have hd : ¬ ((255 : Nat) : Int) < 255 := by omega
      go_wp2_with (first
        | (refine wpList_alloc_nA rfl 56 rfl (zers 256) hi6 hz6 ?_; rw [← HWO.out]))
      obtain ⟨Bo, hBo⟩ : ∃ Bo, Bo = wr.heap.size := ⟨_, rfl⟩
      rw [← hBo] at q4 q5 q6 iO
      rw [← hBo]
      clear hBo
      refine (BE0.out _).mono ?_
      rintro e w1 ⟨rfl, h1⟩
      have jO := iO.below h1 iO.lt
      have jP := iP0.below h1 iP0.lt
      have jR := iR0.below h1 iR0.lt
      have jB : Below w.heap.size w w1 := hB0.trans (h1.mono hB0.size)
      have cO : w1.cell? ⟨Bo, 0, none⟩ = some (.int .u8 0) := by rw [jO.cell, nA_get _ _ (by rw [zers_len]; decide)]; rfl
      have fO := jO.frozen 0
      have jO1 : Is (w1.setCell ⟨Bo, 0, none⟩ (.int .u8 ((TS.getD 0 0 : Nat) : Int))) Bo 56 (nA (setF TS (0 :: PW) 1)) := by
        have := jO.set 0 (.int .u8 ((TS.getD 0 0 : Nat) : Int))
        rw [nA_set, ← setF_zero TS (0 :: PW)] at this
        have e := setF_step TS (0 :: PW) (k := 0) (by simp)
        rw [← e]
        exact this
      have jP1 := jP.far (p := ⟨Bo, 0, none⟩) q5 (.int .u8 ((TS.getD 0 0 : Nat) : Int))
      have jR1 := jR.far (p := ⟨Bo, 0, none⟩) q4 (.int .u8 ((TS.getD 0 0 : Nat) : Int))
      have jB1 := jB.setCell (p := ⟨Bo, 0, none⟩) q6 (.int .u8 ((TS.getD 0 0 : Nat) : Int))
      generalize TS.getD 0 0 = t0 at *
      clear h1 iO iP0 iR0 hB0 jO jP jR jB
      go_wp2
      go_loopw [5] (fun i wq => ∃ k : Nat, k ≤ 255 ∧ i = .int .i64 (k : Int) ∧ Is wq Bo 56 (nA (setF TS (0 :: PW) (k + 1))) ∧ Is wq Bp 65 (nA PW) ∧ Is wq Br 56 (nA (zers 256)) ∧ Below w.heap.size w wq)
        (fun i _ => 255 - (intOf i).toNat)
      case atStart => exact ⟨0, by omega, rfl, jO1, jP1, jR1, jB1⟩
      case round =>
        clear jO1 jP1 jR1 jB1 cO fO
        obtain ⟨k, hk, rfl, iO, iP, iR, hB⟩ := hrel
        by_cases hlt : k < 255
        · have hi1 : (k : Int) < 255 := by omega
          have hi0 : (0 : Int) ≤ (k : Int) := by omega
          obtain ⟨E, hE⟩ : ∃ E : Nat, E = (255 - k) % 255 := ⟨_, rfl⟩
          have hE1 : (255 - (k : Int)).tmod 255 = (E : Int) := by rw [Int.tmod_eq_emod_of_nonneg (by omega)]; omega
          have hE2 : (255 - (k : Int)) % 255 = (E : Int) := by omega
          have hE3 : (E : Int) < 255 := by omega
          have hE4 : (0 : Int) ≤ (E : Int) := by omega
          have wk1 := IntWalk.i64_in (255 - (k : Int)) (by omega)
          have wk2 := IntWalk.i64_in (E : Int) (by omega)
          have HC1 := Lib.hid (nA_get PW k (by rw [pw_len]; exact hlt))
          have HC2 := Lib.hid (nA_get PW E (by rw [pw_len]; omega))
          have be := fun w => rbent_any (PW.getD E 0) w (pw_lt E)
          rw [hE, pw_bent hlt, ← hE] at be
          have hst := setF_step TS (0 :: PW) (k := k + 1) (by rw [List.length_cons, pw_len]; omega)
          rw [show (0 :: PW).getD (k + 1) 0 = PW.getD k 0 from rfl] at hst
          have hs2 := nA_set (setF TS (0 :: PW) (k + 1)) (PW.getD k 0) (TS.getD (PW.getD k 0) 0)
          rw [hst] at hs2
          have HST := Lib.hid hs2
          have hy256 := pw_lt k
          have hy1 : ((PW.getD k 0 : Nat) : Int) < 256 := by omega
          have hy0 : (0 : Int) ≤ ((PW.getD k 0 : Nat) : Int) := by omega
          clear hst hs2 hE
          change ∀ w, Calls _ _ _ w fun e w' => e = .returned (.int .u8 ((TS.getD (PW.getD k 0) 0 : Nat) : Int)) ∧ _ at be
          generalize PW.getD E 0 = z at *
          generalize PW.getD k 0 = y at *
          generalize TS.getD y 0 = x at *
          have BE := Lib.hid be
          clear be
          have iPD : Is wr.drew Bp 65 (nA PW) := iP
          have iOD : Is wr.drew Bo 56 (nA (setF TS (0 :: PW) (k + 1))) := iO
          have iRD : Is wr.drew Br 56 (nA (zers 256)) := iR
          have hBD : Below w.heap.size w wr.drew := belowN hB 1
          go_wp2
          refine wp_region_held_drew (S := fun W => Is W Bp 65 (nA PW)) (by kernel_rfl) iPD (fun hS => ?_)
          change wpAnyH _ _ (opsOf Try.f21 13) _ _ 11 (Array.replicate 11 false) _ _
          refine wpAnyH_pure (i := 0) (o := { dst := some 21, op := Op.move (Operand.tmp 5), type := 3, pos := "ref.go:65", after := #[], guard := none }) (v := .int .i64 (k : Int)) (by kernel_rfl) (by kernel_rfl) (by kernel_rfl) (by kernel_rfl) (fun _ _ _ h => h) (by kernel_rfl) (fun w hSw => by kernel_rfl) hS ?_
          simp only [Act.put, List.setIfInBounds_toArray, List.set_cons_succ, List.set_cons_zero]
          refine wpAnyH_pure (i := 1) (o := { dst := some 22, op := Op.indexAddr 65 (Operand.tmp 1) (Operand.tmp 21), type := 0, pos := "ref.go:65", after := #[{ on := 0, ground := Ground.data }], guard := none }) (v := .pointer (some ⟨Bp, k, none⟩)) (by kernel_rfl) (by kernel_rfl) (by kernel_rfl) (by kernel_rfl) (fun _ _ _ h => h) (by kernel_rfl) (fun w hSw => by go_simp) hS ?_
          simp only [Act.put, List.setIfInBounds_toArray, List.set_cons_succ, List.set_cons_zero]
          refine wpAnyH_pure (i := 2) (o := { dst := some 23, op := Op.load 5 (Operand.tmp 22), type := 5, pos := "ref.go:65", after := #[{ on := 1, ground := Ground.data }], guard := none }) (v := .int .u8 (y : Int)) (by kernel_rfl) (by kernel_rfl) (by kernel_rfl) (by kernel_rfl) (fun _ _ _ h => h) (by kernel_rfl) (fun w hSw => by have hc := hSw.cell k; rw [HC1.out] at hc; go_simp) hS ?_
          simp only [Act.put, List.setIfInBounds_toArray, List.set_cons_succ, List.set_cons_zero]
          refine wpAnyH_pure (i := 3) (o := { dst := some 24, op := Op.move (Operand.tmp 5), type := 3, pos := "ref.go:65", after := #[], guard := none }) (v := .int .i64 (k : Int)) (by kernel_rfl) (by kernel_rfl) (by kernel_rfl) (by kernel_rfl) (fun _ _ _ h => h) (by kernel_rfl) (fun w hSw => by kernel_rfl) hS ?_
          simp only [Act.put, List.setIfInBounds_toArray, List.set_cons_succ, List.set_cons_zero]
          refine wpAnyH_pure (i := 4) (o := { dst := some 25, op := Op.binOp BinOp.sub 3 (Operand.const (Value.int IntKind.i64 255)) (Operand.tmp 24) 3, type := 3, pos := "ref.go:65", after := #[{ on := 3, ground := Ground.data }], guard := none }) (v := .int .i64 (255 - (k : Int))) (by kernel_rfl) (by kernel_rfl) (by kernel_rfl) (by kernel_rfl) (fun _ _ _ h => h) (by kernel_rfl) (fun w hSw => by go_simp) hS ?_
          simp only [Act.put, List.setIfInBounds_toArray, List.set_cons_succ, List.set_cons_zero]
          refine wpAnyH_pure (i := 5) (o := { dst := some 26, op := Op.binOp BinOp.rem 3 (Operand.tmp 25) (Operand.const (Value.int IntKind.i64 255)) 3, type := 3, pos := "ref.go:65", after := #[{ on := 4, ground := Ground.data }], guard := none }) (v := .int .i64 (E : Int)) (by kernel_rfl) (by kernel_rfl) (by kernel_rfl) (by kernel_rfl) (fun _ _ _ h => h) (by kernel_rfl) (fun w hSw => by go_simp) hS ?_
          simp only [Act.put, List.setIfInBounds_toArray, List.set_cons_succ, List.set_cons_zero]
          refine wpAnyH_pure (i := 6) (o := { dst := some 27, op := Op.indexAddr 65 (Operand.tmp 1) (Operand.tmp 26), type := 0, pos := "ref.go:65", after := #[{ on := 5, ground := Ground.data }], guard := none }) (v := .pointer (some ⟨Bp, E, none⟩)) (by kernel_rfl) (by kernel_rfl) (by kernel_rfl) (by kernel_rfl) (fun _ _ _ h => h) (by kernel_rfl) (fun w hSw => by go_simp) hS ?_
          simp only [Act.put, List.setIfInBounds_toArray, List.set_cons_succ, List.set_cons_zero]
          refine wpAnyH_pure (i := 7) (o := { dst := some 28, op := Op.load 5 (Operand.tmp 27), type := 5, pos := "ref.go:65", after := #[{ on := 6, ground := Ground.data }], guard := none }) (v := .int .u8 (z : Int)) (by kernel_rfl) (by kernel_rfl) (by kernel_rfl) (by kernel_rfl) (fun _ _ _ h => h) (by kernel_rfl) (fun w hSw => by have hc := hSw.cell E; rw [HC2.out] at hc; go_simp) hS ?_
          simp only [Act.put, List.setIfInBounds_toArray, List.set_cons_succ, List.set_cons_zero]
          refine wpAnyH_call (i := 8) (o := { dst := some 29, op := Op.call { callee := Callee.value (Operand.func 28), args := #[Operand.tmp 28], argTypes := #[5] }, type := 5, pos := "ref.go:65", after := #[{ on := 7, ground := Ground.data }], guard := none }) (by kernel_rfl) (by kernel_rfl) (by kernel_rfl) (fun w => by kernel_rfl) ((BE.out _).mono ?_)
          rintro e w3 ⟨rfl, hb3⟩
          have iP3 := iPD.below hb3 iPD.lt
          have iO3 := iOD.below hb3 iOD.lt
          have iR3 := iRD.below hb3 iRD.lt
          have hB3 : Below w.heap.size w w3 := hBD.trans (hb3.mono hBD.size)
          have cO3 : (w3.cell? ⟨Bo, y, none⟩).isSome = true := by rw [iO3.cell, nA_get _ _ (by rw [setF_len]; exact hy256)]; rfl
          obtain ⟨vO, cO⟩ := Option.isSome_iff_exists.1 cO3
          have fO := iO3.frozen y
          refine ⟨_, rfl, iP3, ?_⟩
          try simp only [Act.put, List.setIfInBounds_toArray, List.set_cons_succ, List.set_cons_zero]
          refine wpAnyH_pure (i := 9) (o := { dst := some 30, op := Op.indexAddr 56 (Operand.tmp 4) (Operand.tmp 23), type := 0, pos := "ref.go:65", after := #[{ on := 2, ground := Ground.data }, { on := 0, ground := Ground.phase }, { on := 1, ground := Ground.phase }, { on := 2, ground := Ground.phase }, { on := 3, ground := Ground.phase }, { on := 4, ground := Ground.phase }, { on := 5, ground := Ground.phase }, { on := 6, ground := Ground.phase }, { on := 7, ground := Ground.phase }, { on := 8, ground := Ground.phase }], guard := none }) (v := .pointer (some ⟨Bo, y, none⟩)) (by kernel_rfl) (by kernel_rfl) (by kernel_rfl) (by kernel_rfl) (fun _ _ _ h => h) (by kernel_rfl) (fun w hSw => by go_simp) iP3 ?_
          simp only [Act.put, List.setIfInBounds_toArray, List.set_cons_succ, List.set_cons_zero]
          refine wpAnyH_step (i := 10) (o := { dst := none, op := Op.store 5 (Operand.tmp 30) (Operand.tmp 29), type := 0, pos := "ref.go:65", after := #[{ on := 9, ground := Ground.data }, { on := 8, ground := Ground.data }, { on := 8, ground := Ground.chain }, { on := 0, ground := Ground.phase }, { on := 1, ground := Ground.phase }, { on := 2, ground := Ground.phase }, { on := 3, ground := Ground.phase }, { on := 4, ground := Ground.phase }, { on := 5, ground := Ground.phase }, { on := 6, ground := Ground.phase }, { on := 7, ground := Ground.phase }, { on := 8, ground := Ground.phase }], guard := none }) (by kernel_rfl) (by kernel_rfl) (by kernel_rfl) (fun Kc hKc => ?_)
          go_simp
          refine hKc.out _ _ (iP3.far (p := ⟨Bo, y, none⟩) q5 _) (fun _ => ?_)
          clear hKc Kc
          try simp only [Act.put, List.setIfInBounds_toArray, List.set_cons_succ, List.set_cons_zero]
          refine wpAnyH_done (by kernel_rfl) ?_ _
          have kO : Is (w3.setCell ⟨Bo, y, none⟩ (.int .u8 (x : Int))) Bo 56 (nA (setF TS (0 :: PW) (k + 1 + 1))) := by
            have := iO3.set y (.int .u8 (x : Int))
            rw [HST.out] at this
            exact this
          have kP := iP3.far (p := ⟨Bo, y, none⟩) q5 (.int .u8 (x : Int))
          have kR := iR3.far (p := ⟨Bo, y, none⟩) q4 (.int .u8 (x : Int))
          have kB := hB3.setCell (p := ⟨Bo, y, none⟩) q6 (.int .u8 (x : Int))
          go_wp2
          go_roundw
          case rel => exact ⟨k + 1, by omega, by go_num, kO, kP, kR, kB⟩
          case measure => simp [intOf]; omega
        · obtain rfl : k = 255 := by omega
          rw [setF_all TS (0 :: PW) ts_len (by rw [List.length_cons, pw_len]; omega) (fun j hj => all1_of idxS_all hj)] at iO
          have hone := nA_one TS
          have hs2 : (nA TS).size = 256 := by rw [nA_size, ts_len]
          have hin : (Try.prog.info? 56).map (·.size) = some (nA TS).size := by rw [hs2]; exact size256
          have hzz : (nA (zers 256)).size = (nA TS).size := by rw [hs2, nA_size, zers_len]
          generalize hR : nA TS = R at *
          have HR := Lib.hid hR
          clear hR hs2
          have hd : ¬ ((255 : Nat) : Int) < 255 := by omega
          go_wp2_with (first
            | (refine wpList_load_row rfl 56 _ rfl Bo rfl _ _ _ _ iO Try.underlying56 rfl hin ?_)
            | (refine wpList_store_row rfl 56 _ _ rfl Br R rfl rfl _ _ iR hin hzz hone ?_))
          refine bodyPost_ret (results_cell_row Try.results21 _ _ Br 56 R (0, 0) _ rfl (iR.row _) Try.underlying56 rfl hin) rfl ⟨by rw [HR.out], ?_⟩
          exact belowRow hB q2 _

end Go.Proofs.Ytefiecgadbacjaa
namespace Go.Proofs.Ytefiecgadbacjaa
open Go.RowKit Go.Shelf

theorem ext_strN {L : List Nat} (hL : ∀ x ∈ L, x < 256) (a b : Nat) : (strN L).extract a b = strN ((L.drop a).take (b - a)) := natL_inj (by
  rw [natL_extract, strN_nat hL, strN_nat (fun x hx => hL x (List.drop_subset a L (List.take_subset _ _ hx)))])
theorem strN_pos {L : List Nat} (h : 0 < L.length) : 0 < (strN L).size := by rw [strN_size]; exact h
theorem lSub (L : List Nat) (w : World) (h0 : 0 < L.length) (h1 : L.length ≤ 1000) (hL : ∀ x ∈ L, x < 256) :
    Calls Try.prog 31 #[.string (strN L), .agg (nA TS)] w fun e w' => e = .returned (.string (strN (subL L))) ∧ Below w.heap.size w w' := by
  have := rsubbed_any (strN L) TS w (by rw [strN_size]; exact h0) (by rw [strN_size]; exact h1) ts_len
  rwa [strN_nat hL] at this
theorem lBack (L : List Nat) (w : World) (h0 : 0 < L.length) (h1 : L.length ≤ 1000) (hL : ∀ x ∈ L, x < 256) :
    Calls Try.prog 31 #[.string (strN L), .agg (nA TB)] w fun e w' => e = .returned (.string (strN (backL L))) ∧ Below w.heap.size w w' := by
  have := rsubbed_any (strN L) TB w (by rw [strN_size]; exact h0) (by rw [strN_size]; exact h1) tb_len
  rwa [strN_nat hL] at this
theorem lXor (a b : List Nat) (w : World) (h0 : 0 < a.length) (h1 : a.length ≤ 1000) (hab : b.length = a.length) (ha : ∀ x ∈ a, x < 256) (hb : ∀ x ∈ b, x < 256) :
    Calls Try.prog 29 #[.string (strN a), .string (strN b)] w fun e w' => e = .returned (.string (strN (xorB a b))) ∧ Below w.heap.size w w' := by
  have := rxor_any (strN a) (strN b) w (by rw [strN_size]; exact h0) (by rw [strN_size]; exact h1) (by rw [strN_size, strN_size, hab])
  rwa [strN_nat ha, strN_nat hb] at this
theorem lSh1 {L : List Nat} (h : Blk L) (w : World) :
    Calls Try.prog 30 #[.string (strN L), .int .i64 1] w fun e w' => e = .returned (.string (strN (shiftL L 1))) ∧ Below w.heap.size w w' := by
  have := rshifted_1 (strN L) w (by rw [strN_size, h.len])
  rwa [strN_nat h.lt] at this
theorem lSh3 {L : List Nat} (h : Blk L) (w : World) :
    Calls Try.prog 30 #[.string (strN L), .int .i64 3] w fun e w' => e = .returned (.string (strN (shiftL L 3))) ∧ Below w.heap.size w w' := by
  have := rshifted_3 (strN L) w (by rw [strN_size, h.len])
  rwa [strN_nat h.lt] at this
theorem lMix {L : List Nat} (h : Blk L) (w : World) :
    Calls Try.prog 32 #[.string (strN L)] w fun e w' => e = .returned (.string (strN (mixL L))) ∧ Below w.heap.size w w' := by
  have := rmixed_any (strN L) w (by rw [strN_size, h.len])
  rwa [strN_nat h.lt] at this
/-- a round key among all of them. -/
def rkN (E : List Nat) (r : Nat) : List Nat := (E.drop (16 * r)).take 16
theorem rkN_blk {E : List Nat} (hE : ∀ x ∈ E, x < 256) {r : Nat} (h : 16 * (r + 1) ≤ E.length) : Blk (rkN E r) :=
  ⟨by rw [rkN, List.length_take, List.length_drop]; omega, fun x hx => hE x (List.drop_subset _ _ (List.take_subset _ _ hx))⟩
theorem run_slice_mid {P : Program} {t : TypeId} (hu : P.underlying t = some .string) {L : List Nat} (hL : ∀ x ∈ L, x < 256) (a b : Nat) (ia ib : Int) (ha : ia = (a : Int)) (hb : ib = (b : Int)) (hab : a ≤ b) (hl : b ≤ L.length) (w : World) :
    (Instr.slice t (.string (strN L)) (some (.int .i64 ia)) (some (.int .i64 ib)) none).run P w = .ok (.string (strN ((L.drop a).take (b - a)))) w := by
  subst ha hb
  rw [run_slice_string (P := P) (w := w) t (strN L) .i64 .i64 (a : Int) (b : Int) hu (by omega) (by omega) (by rw [strN_size]; omega)]
  rw [Int.toNat_natCast, Int.toNat_natCast, ext_strN hL]
theorem run_slice_to {P : Program} {t : TypeId} (hu : P.underlying t = some .string) {L : List Nat} (hL : ∀ x ∈ L, x < 256) (b : Nat) (ib : Int) (hb : ib = (b : Int)) (hl : b ≤ L.length) (w : World) :
    (Instr.slice t (.string (strN L)) none (some (.int .i64 ib)) none).run P w = .ok (.string (strN (L.take b))) w := by
  subst hb
  have := run_slice_string_h (P := P) (w := w) (t := t) (s := strN L) hu .i64 (b : Int) (by omega) (by rw [strN_size]; omega)
  rw [this, Int.toNat_natCast, ext_strN hL, List.drop_zero, Nat.sub_zero]
theorem run_slice_from {P : Program} {t : TypeId} (hu : P.underlying t = some .string) {L : List Nat} (hL : ∀ x ∈ L, x < 256) (a : Nat) (ia : Int) (ha : ia = (a : Int)) (hl : a ≤ L.length) (w : World) :
    (Instr.slice t (.string (strN L)) (some (.int .i64 ia)) none none).run P w = .ok (.string (strN (L.drop a))) w := by
  subst ha
  have := run_slice_string_l (P := P) (w := w) (t := t) (s := strN L) hu .i64 (a : Int) (by omega) (by rw [strN_size]; omega)
  rw [this, Int.toNat_natCast, ext_strN hL, strN_size, List.take_of_length_le (by rw [List.length_drop]; exact Nat.le_refl _)]
theorem ts_in : (Try.prog.info? 56).map (·.size) = some (nA TS).size := by rw [nA_size, ts_len]; exact size256
theorem tb_in : (Try.prog.info? 56).map (·.size) = some (nA TB).size := by rw [nA_size, tb_len]; exact size256

set_option maxRecDepth 100000 in
set_option maxHeartbeats 2000000 in
theorem rrun_any (E S : List Nat) (R : Nat) (w : World) (hE : ∀ x ∈ E, x < 256) (hl : E.length = 16 * (R + 1)) (hR : R ≤ 20) (hS : Blk S) :
    Calls Try.prog 22 #[.string (strN E), .string (strN S), .agg (nA TS)] w fun e w' => e = .returned (.string (strN (encN (rkN E) R S R))) ∧ Below w.heap.size w w' := by
  have HK := Lib.hid (fun r (h : r ≤ R) => rkN_blk hE (r := r) (by omega))
  have hin := ts_in
  have SB := Lib.hid lSub
  have hz : ((strN E).size : Int) = 16 * ((R : Int) + 1) := by rw [strN_size, hl]; omega
  have hq1 : (16 * ((R : Int) + 1)).tdiv 16 = (R : Int) + 1 := by rw [Int.tdiv_eq_ediv_of_nonneg (by omega)]; omega
  have hq2 : (16 * ((R : Int) + 1)) / 16 = (R : Int) + 1 := by omega
  have s0 : ∀ wx : World, (Instr.slice 9 (.string (strN E)) none (some (.int .i64 16)) none).run Try.prog wx = .ok (.string (strN (rkN E 0))) wx := fun wx => run_slice_to Try.underlying9 hE 16 16 rfl (by omega) wx
  have HSL := Lib.hid (fun r (h : r ≤ R) (wx : World) => run_slice_mid (P := Try.prog) (t := 9) Try.underlying9 hE (16 * r) (16 * r + 16) (16 * (r : Int)) (16 * (r : Int) + 16) (by omega) (by omega) (by omega) (by omega) wx)
  have HS := Lib.hid hS
  have iT : Is (w.alloc (.cells (nA TS) 56)) w.heap.size 56 (nA TS) := Is.new w _ _
  have hB0 : Below w.heap.size w (w.alloc (.cells (nA TS) 56)) := (Below.refl _ _).alloc (Nat.le_refl _) _
  have HE := Lib.hid (fun i (h : i < R) => show encN (rkN E) R S (i + 1) = rndN (rkN E (i + 1)) (decide (i + 1 < R)) (encN (rkN E) R S i) from rfl)
  have HB := Lib.hid (fun i (h : i ≤ R) => encN_blk (K := rkN E) (R := R) HK.out hS i h)
  have X0 := Lib.hid (fun w => lXor S (rkN E 0) w (by rw [hS.len]; omega) (by rw [hS.len]; omega) (by rw [hS.len, (HK.out 0 (by omega)).len]) hS.lt (HK.out 0 (by omega)).lt)
  generalize nA TS = RT at *
  generalize hEE : strN E = EE at *
  clear hS hE hl hEE
  go_enter Try.func22, Try.ntmps22
  go_wp2_with fail
  refine (X0.out _).mono ?_
  rintro e w1 ⟨rfl, h1⟩
  have iT1 := iT.below h1 iT.lt
  have hB1 : Below w.heap.size w w1 := hB0.trans (h1.mono hB0.size)
  have hbt : w.heap.size ≤ w.heap.size := Nat.le_refl _
  clear iT hB0 h1 s0 hz hq1 hq2
  go_wp2
  go_loopw [8, 9] (fun t i wr => ∃ q : Nat, 1 ≤ q ∧ q ≤ R + 1 ∧ i = .int .i64 (q : Int) ∧ t = .string (strN (encN (rkN E) R S (q - 1))) ∧ Is wr w.heap.size 56 RT ∧ Below w.heap.size w wr)
    (fun _ i _ => R + 1 - (intOf i).toNat)
  case atStart => exact ⟨1, by omega, by omega, rfl, rfl, iT1, hB1⟩
  case round =>
    clear iT1 hB1
    obtain ⟨q, hq0, hq1, rfl, rfl, iT, hB⟩ := hrel
    by_cases hlt : q ≤ R
    · have hd1 : (q : Int) ≤ (R : Int) := by omega
      have bV := HB.out (q - 1) (by omega)
      have bK := HK.out q hlt
      have hst := HE.out (q - 1) (by omega)
      rw [show q - 1 + 1 = q by omega] at hst
      have hsl := fun wx => HSL.out q hlt wx
      simp only [show 16 * q + 16 - 16 * q = 16 by omega] at hsl
      change ∀ wx, _ = Result.ok (Value.string (strN (rkN E q))) wx at hsl
      generalize encN (rkN E) R S (q - 1) = V at *
      have C1 := Lib.hid (fun w => SB.out V w (by rw [bV.len]; omega) (by rw [bV.len]; omega) bV.lt)
      have C2 := Lib.hid (fun w => lSh1 bV.sub w)
      have C3 := Lib.hid (fun w => lMix (bV.sub.shift 1) w)
      by_cases hm : q < R
      · have hd2 : (q : Int) < (R : Int) := by omega
        rw [show decide (q < R) = true by simpa using hm] at hst
        change _ = xorB (mixL (shiftL (subL V) 1)) (rkN E q) at hst
        have C4 := Lib.hid (fun w => lXor (mixL (shiftL (subL V) 1)) (rkN E q) w (by rw [(bV.sub.shift 1).mix.len]; omega) (by rw [(bV.sub.shift 1).mix.len]; omega) (by rw [(bV.sub.shift 1).mix.len, bK.len]) (bV.sub.shift 1).mix.lt bK.lt)
        have HST := Lib.hid hst
        clear hst
        generalize rkN E q = KK at *
        generalize mixL (shiftL (subL V) 1) = V3 at *
        generalize shiftL (subL V) 1 = V2 at *
        generalize subL V = V1 at *
        go_wp2_with (first
          | (refine wpList_load_row rfl 56 _ rfl w.heap.size rfl _ _ _ _ iT Try.underlying56 rfl hin ?_)
          | (go_at_call 31; refine (C1.out _).mono ?_; rintro e v ⟨rfl, hb⟩; replace iT := iT.below hb iT.lt; replace hB := hB.trans (hb.mono hB.size); clear hb)
          | (go_at_call 30; refine (C2.out _).mono ?_; rintro e v ⟨rfl, hb⟩; replace iT := iT.below hb iT.lt; replace hB := hB.trans (hb.mono hB.size); clear hb)
          | (go_at_call 32; refine (C3.out _).mono ?_; rintro e v ⟨rfl, hb⟩; replace iT := iT.below hb iT.lt; replace hB := hB.trans (hb.mono hB.size); clear hb)
          | (go_at_call 29; refine (C4.out _).mono ?_; rintro e v ⟨rfl, hb⟩; replace iT := iT.below hb iT.lt; replace hB := hB.trans (hb.mono hB.size); clear hb))
        go_roundw
        case rel => exact ⟨q + 1, by omega, by omega, by go_num, by rw [Nat.add_sub_cancel, HST.out], iT, hB⟩
        case measure => simp [intOf]; omega
      · have hd2 : ¬ (q : Int) < (R : Int) := by omega
        rw [show decide (q < R) = false by simpa using hm] at hst
        change _ = xorB (shiftL (subL V) 1) (rkN E q) at hst
        have C4 := Lib.hid (fun w => lXor (shiftL (subL V) 1) (rkN E q) w (by rw [(bV.sub.shift 1).len]; omega) (by rw [(bV.sub.shift 1).len]; omega) (by rw [(bV.sub.shift 1).len, bK.len]) (bV.sub.shift 1).lt bK.lt)
        have HST := Lib.hid hst
        clear hst
        generalize rkN E q = KK at *
        generalize shiftL (subL V) 1 = V2 at *
        generalize subL V = V1 at *
        go_wp2_with (first
          | (refine wpList_load_row rfl 56 _ rfl w.heap.size rfl _ _ _ _ iT Try.underlying56 rfl hin ?_)
          | (go_at_call 31; refine (C1.out _).mono ?_; rintro e v ⟨rfl, hb⟩; replace iT := iT.below hb iT.lt; replace hB := hB.trans (hb.mono hB.size); clear hb)
          | (go_at_call 30; refine (C2.out _).mono ?_; rintro e v ⟨rfl, hb⟩; replace iT := iT.below hb iT.lt; replace hB := hB.trans (hb.mono hB.size); clear hb)
          | (go_at_call 29; refine (C4.out _).mono ?_; rintro e v ⟨rfl, hb⟩; replace iT := iT.below hb iT.lt; replace hB := hB.trans (hb.mono hB.size); clear hb))
        go_roundw
        case rel => exact ⟨q + 1, by omega, by omega, by go_num, by rw [Nat.add_sub_cancel, HST.out], iT, hB⟩
        case measure => simp [intOf]; omega
    · obtain rfl : q = R + 1 := by omega
      rw [Nat.add_sub_cancel]
      generalize hV : encN (rkN E) R S R = V at *
      have HV := Lib.hid hV
      clear hV
      have hd1 : ¬ ((R : Int) + 1 ≤ (R : Int)) := by omega
      have hd2 : ¬ (((R + 1 : Nat) : Int) ≤ (R : Int)) := by omega
      go_wp2
      go_ret
      exact ⟨by rw [HV.out]; rfl, hB⟩
end Go.Proofs.Ytefiecgadbacjaa
namespace Go.Proofs.Ytefiecgadbacjaa
open Go.RowKit Go.Shelf

set_option maxRecDepth 100000 in
set_option maxHeartbeats 8000000 in
theorem rexp_4 (key : ByteArray) (w : World) (hk : key.size = 16) :
    Calls Try.prog 23 #[.string key, .agg (nA TS)] w fun e w' => e = .returned (.string (strN (expN (natL key) 4 40).1)) ∧ Below w.heap.size w w' := by
  have hkl : (natL key).length = 4 * 4 := by rw [natL_len, hk]
  have HLEN := Lib.hid (fun j => expN_len (key := natL key) (n := 4) hkl (by omega) j)
  have HBY := Lib.hid (fun j => expN_lt (key := natL key) (n := 4) (natL_lt key) j)
  have HK := Lib.hid (show strN (expN (natL key) 4 0).1 = key from strN_natL key)
  have hkz : (key.size : Int) = 16 := by rw [hk]; rfl
  have hin := ts_in
  have SB := Lib.hid lSub
  have iT : Is (w.alloc (.cells (nA TS) 56)) w.heap.size 56 (nA TS) := Is.new w _ _
  have hB0 : Below w.heap.size w (w.alloc (.cells (nA TS) 56)) := (Below.refl _ _).alloc (Nat.le_refl _) _
  generalize nA TS = RT at *
  clear hk hkl
  go_enter Try.func23, Try.ntmps23
  go_wp2
  go_loopw [6, 7, 8] (fun o cc i wr => ∃ q : Nat, 4 ≤ q ∧ q ≤ 44 ∧ i = .int .i64 (q : Int) ∧ cc = .int .u8 (((expN (natL key) 4 (q - 4)).2 : Nat) : Int) ∧ o = .string (strN (expN (natL key) 4 (q - 4)).1) ∧ Is wr w.heap.size 56 RT ∧ Below w.heap.size w wr)
    (fun _ _ i _ => 44 - (intOf i).toNat)
  case atStart => exact ⟨4, by omega, by omega, rfl, rfl, by rw [Nat.sub_self, HK.out], iT, hB0⟩
  case round =>
    clear iT hB0
    obtain ⟨q, hq0, hq1, rfl, rfl, rfl, iT, hB⟩ := hrel
    by_cases hlt : q < 44
    · have hd1 : (q : Int) < 44 := by omega
      obtain ⟨j, hj⟩ : ∃ j : Nat, j = q - 4 := ⟨_, rfl⟩
      have hst : expN (natL key) 4 (q + 1 - 4) = expS 4 (expN (natL key) 4 j) q := by
        rw [show q + 1 - 4 = j + 1 by omega]
        show expS 4 (expN (natL key) 4 j) (4 + j) = _
        rw [show 4 + j = q by omega]
      rw [← hj]
      have hL := HLEN.out j
      rw [show 4 * (4 + j) = 4 * q by omega] at hL
      have hLb := (HBY.out j).1
      have hcb := (HBY.out j).2
      generalize expN (natL key) 4 j = st at *
      obtain ⟨L, c⟩ := st
      dsimp only at hL hLb hcb hst ⊢
      unfold expS at hst
      dsimp only at hst
      rw [show q - 4 = j from hj.symm] at hst
      have hm : (q : Int) - 4 = (j : Int) := by omega
      have s7 := fun wx => run_slice_from (P := Try.prog) (t := 9) Try.underlying9 hLb (4 * q - 4) (4 * (q : Int) - 4) (by omega) (by omega) wx
      have s14 := fun wx => run_slice_mid (P := Try.prog) (t := 9) Try.underlying9 hLb (4 * j) (4 * j + 4) (4 * (j : Int)) (4 * (j : Int) + 4) (by omega) (by omega) (by omega) (by omega) wx
      rw [show 4 * j + 4 - 4 * j = 4 by omega] at s14
      have hT0l : (L.drop (4 * q - 4)).length = 4 := by rw [List.length_drop, hL]; omega
      have hT0b : ∀ x ∈ L.drop (4 * q - 4), x < 256 := fun x hx => hLb x (List.drop_subset _ _ hx)
      have hWl : ((L.drop (4 * j)).take 4).length = 4 := by rw [List.length_take, List.length_drop, hL]; omega
      have hWb : ∀ x ∈ (L.drop (4 * j)).take 4, x < 256 := fun x hx => hLb x (List.drop_subset _ _ (List.take_subset _ _ hx))
      obtain ⟨LL, hLL⟩ : ∃ LL, LL = strN L := ⟨_, rfl⟩
      have hLs : LL.size = 4 * q := by rw [hLL, strN_size, hL]
      rw [← hLL] at s7 s14 ⊢
      generalize L.drop (4 * q - 4) = T0 at *
      generalize (L.drop (4 * j)).take 4 = WW at *
      obtain ⟨TT, hTT⟩ : ∃ TT, TT = strN T0 := ⟨_, rfl⟩
      rw [← hTT] at s7
      obtain ⟨R, hR⟩ : ∃ R : Nat, R = q % 4 := ⟨_, rfl⟩
      have hr1 : (q : Int).tmod 4 = (R : Int) := by rw [Int.tmod_eq_emod_of_nonneg (by omega)]; omega
      have hr2 : (q : Int) % 4 = (R : Int) := by omega
      have hj0 : 4 * q ≤ 240 := by omega
      clear hj
      by_cases hr0 : R = 0
      · have t0 : ((R : Int) == 0) = true := by rw [hr0]; rfl
        have hK : keyT 4 q c T0 = hdX c (subL (T0.drop 1 ++ T0.take 1)) := by unfold keyT; dsimp only; rw [if_neg (by omega), if_pos (by omega)]
        have hC : (if q % 4 = 0 then mulN 2 c else c) = mulN 2 c := if_pos (by omega)
        rw [hK, hC] at hst
        have hUl : (T0.drop 1 ++ T0.take 1).length = 4 := by rw [List.length_append, List.length_drop, List.length_take, hT0l]; rfl
        have hUb : ∀ x ∈ T0.drop 1 ++ T0.take 1, x < 256 := fun x hx => by
          rcases List.mem_append.1 hx with h | h
          · exact hT0b x (List.drop_subset _ _ h)
          · exact hT0b x (List.take_subset _ _ h)
        have s9a := fun wx => run_slice_from (P := Try.prog) (t := 9) Try.underlying9 hT0b 1 1 rfl (by omega) wx
        have s9b := fun wx => run_slice_to (P := Try.prog) (t := 9) Try.underlying9 hT0b 1 1 rfl (by omega) wx
        have hcu : strN (T0.drop 1) ++ strN (T0.take 1) = strN (T0.drop 1 ++ T0.take 1) := by rw [strN_app]
        have hnu : ¬ (9223372036854775807 < (strN (T0.drop 1)).size + (strN (T0.take 1)).size) := by rw [strN_size, strN_size, List.length_drop, List.length_take]; omega
        have C1 := Lib.hid (fun w => SB.out (T0.drop 1 ++ T0.take 1) w (by omega) (by omega) hUb)
        rw [← hTT] at s9a s9b
        have hVl : (subL (T0.drop 1 ++ T0.take 1)).length = 4 := by rw [subL, List.length_map, hUl]
        have hVb := subL_lt hUb
        generalize subL (T0.drop 1 ++ T0.take 1) = V at *
        generalize T0.drop 1 ++ T0.take 1 = U at *
        have s10 := fun wx => run_slice_from (P := Try.prog) (t := 9) Try.underlying9 hVb 1 1 rfl (by omega) wx
        have h0l : 0 < (strN V).size := by rw [strN_size, hVl]; decide
        have h0k : (0 : Int) < ((strN V).size : Int) := by omega
        have g0 := btN_get h0l
        rw [btN_nat V hVb 0] at g0
        have hx := u8_xor_nat (V.getD 0 0) c (getD_mem_lt hVb 0) hcb
        have hzl : V.getD 0 0 ^^^ c < 256 := Nat.xor_lt_two_pow (n := 8) (getD_mem_lt hVb 0) hcb
        have hhd : hdX c V = [V.getD 0 0 ^^^ c] ++ V.drop 1 := by
          match V, hVl with
          | a :: b, _ => rfl
        rw [hhd] at hst
        have hDl : ([V.getD 0 0 ^^^ c] ++ V.drop 1).length = 4 := by rw [List.length_append, List.length_drop, hVl]; rfl
        have hDb : ∀ x ∈ [V.getD 0 0 ^^^ c] ++ V.drop 1, x < 256 := fun x hx => by
          rcases List.mem_append.1 hx with h | h
          · rw [List.mem_singleton] at h; omega
          · exact hVb x (List.drop_subset _ _ h)
        have hcd : strN [V.getD 0 0 ^^^ c] ++ strN (V.drop 1) = strN ([V.getD 0 0 ^^^ c] ++ V.drop 1) := by rw [strN_app]
        have hnd : ¬ (9223372036854775807 < (strN [V.getD 0 0 ^^^ c]).size + (strN (V.drop 1)).size) := by rw [strN_size, strN_size, List.length_drop, List.length_singleton]; omega
        have MU := Lib.hid (fun w => rmul_any 2 c w (by decide) hcb)
        have C4 := Lib.hid (fun w => lXor WW ([V.getD 0 0 ^^^ c] ++ V.drop 1) w (by rw [hWl]; omega) (by rw [hWl]; omega) (by rw [hDl, hWl]) hWb hDb)
        have hXl : (strN (xorB WW ([V.getD 0 0 ^^^ c] ++ V.drop 1))).size = 4 := by rw [strN_size, xorB, List.length_zipWith, hWl, hDl]; rfl
        have hcat : LL ++ strN (xorB WW ([V.getD 0 0 ^^^ c] ++ V.drop 1)) = strN (L ++ xorB WW ([V.getD 0 0 ^^^ c] ++ V.drop 1)) := by rw [hLL, strN_app]
        have hnl : ¬ (9223372036854775807 < LL.size + (strN (xorB WW ([V.getD 0 0 ^^^ c] ++ V.drop 1))).size) := by rw [hXl, hLs]; omega
        obtain ⟨LN, hLN⟩ : ∃ LN, LN = strN (L ++ xorB WW ([V.getD 0 0 ^^^ c] ++ V.drop 1)) := ⟨_, rfl⟩
        rw [← hLN] at hcat
        have HSL := Lib.hid (show strN (expN (natL key) 4 (q + 1 - 4)).1 = LN by rw [hst, hLN])
        have HSC := Lib.hid (show (expN (natL key) 4 (q + 1 - 4)).2 = mulN 2 c by rw [hst])
        clear hst hLN hXl
        generalize strN (xorB WW ([V.getD 0 0 ^^^ c] ++ V.drop 1)) = XX at *
        generalize strN WW = WS at *
        clear hLL hLs hT0l hT0b hWl hWb hL hLb hTT hK hC
        have hz1 : strN [V.getD 0 0 ^^^ c] = strOfNums [((V.getD 0 0 ^^^ c : Nat) : Int)] := rfl
        generalize strN ([V.getD 0 0 ^^^ c] ++ V.drop 1) = T2 at *
        generalize strN (V.drop 1) = TD at *
        generalize strN [V.getD 0 0 ^^^ c] = ZS at *
        generalize V.getD 0 0 ^^^ c = z at *
        generalize V.getD 0 0 = y at *
        generalize strN V = T1 at *
        generalize strN U = P1 at *
        generalize strN (T0.drop 1) = TA at *
        generalize strN (T0.take 1) = TZ at *
        generalize mulN 2 c = c2 at *
        have HZ1 := Lib.hid hz1
        clear hVl hVb hUl hUb hDl hDb hhd hzl hR hz1
        have iTD : Is wr.drew w.heap.size 56 RT := iT
        have hBD : Below w.heap.size w wr.drew := belowN hB 1
        go_wp2
        refine wp_region_held_drew (S := fun W => Is W w.heap.size 56 RT) (by kernel_rfl) iTD (fun hS => ?_)
        change wpAnyH _ _ (opsOf Try.f23 9) _ _ 8 (Array.replicate 8 false) _ _
        refine wpAnyH_pure (i := 0) (o := { dst := some 31, op := Op.move (Operand.tmp 9), type := 9, pos := "ref.go:38", after := #[], guard := none }) (v := .string TT) (by kernel_rfl) (by kernel_rfl) (by kernel_rfl) (by kernel_rfl) (fun _ _ _ h => h) (by kernel_rfl) (fun w hSw => by kernel_rfl) hS ?_
        simp only [Act.put, List.setIfInBounds_toArray, List.set_cons_succ, List.set_cons_zero]
        refine wpAnyH_pure (i := 1) (o := { dst := some 32, op := Op.slice 9 (Operand.tmp 31) (some (Operand.const (Value.int IntKind.i64 1))) none none, type := 9, pos := "ref.go:38", after := #[{ on := 0, ground := Ground.data }], guard := none }) (v := .string TA) (by kernel_rfl) (by kernel_rfl) (by kernel_rfl) (by kernel_rfl) (fun _ _ _ h => h) (by kernel_rfl) (fun w hSw => by go_simp) hS ?_
        simp only [Act.put, List.setIfInBounds_toArray, List.set_cons_succ, List.set_cons_zero]
        refine wpAnyH_pure (i := 2) (o := { dst := some 33, op := Op.move (Operand.tmp 9), type := 9, pos := "ref.go:38", after := #[], guard := none }) (v := .string TT) (by kernel_rfl) (by kernel_rfl) (by kernel_rfl) (by kernel_rfl) (fun _ _ _ h => h) (by kernel_rfl) (fun w hSw => by kernel_rfl) hS ?_
        simp only [Act.put, List.setIfInBounds_toArray, List.set_cons_succ, List.set_cons_zero]
        refine wpAnyH_pure (i := 3) (o := { dst := some 34, op := Op.slice 9 (Operand.tmp 33) none (some (Operand.const (Value.int IntKind.i64 1))) none, type := 9, pos := "ref.go:38", after := #[{ on := 2, ground := Ground.data }], guard := none }) (v := .string TZ) (by kernel_rfl) (by kernel_rfl) (by kernel_rfl) (by kernel_rfl) (fun _ _ _ h => h) (by kernel_rfl) (fun w hSw => by go_simp) hS ?_
        simp only [Act.put, List.setIfInBounds_toArray, List.set_cons_succ, List.set_cons_zero]
        refine wpAnyH_pure (i := 4) (o := { dst := some 35, op := Op.binOp BinOp.add 9 (Operand.tmp 32) (Operand.tmp 34) 9, type := 9, pos := "ref.go:38", after := #[{ on := 1, ground := Ground.data }, { on := 3, ground := Ground.data }], guard := none }) (v := .string P1) (by kernel_rfl) (by kernel_rfl) (by kernel_rfl) (by kernel_rfl) (fun _ _ _ h => h) (by kernel_rfl) (fun w hSw => by go_simp) hS ?_
        simp only [Act.put, List.setIfInBounds_toArray, List.set_cons_succ, List.set_cons_zero]
        refine wpAnyH_pure (i := 5) (o := { dst := some 36, op := Op.load 56 (Operand.tmp 3), type := 56, pos := "ref.go:38", after := #[], guard := none }) (v := .agg RT) (by kernel_rfl) (by kernel_rfl) (by kernel_rfl) (by kernel_rfl) (fun _ _ _ h => h) (by kernel_rfl) (fun w hSw => by exact run_load_rowO rfl rfl hSw Try.underlying56 rfl hin) hS ?_
        simp only [Act.put, List.setIfInBounds_toArray, List.set_cons_succ, List.set_cons_zero]
        refine wpAnyH_call (i := 6) (o := { dst := some 37, op := Op.call { callee := Callee.value (Operand.func 31), args := #[Operand.tmp 35, Operand.tmp 36], argTypes := #[9, 56] }, type := 9, pos := "ref.go:38", after := #[{ on := 4, ground := Ground.data }, { on := 5, ground := Ground.data }], guard := none }) (by kernel_rfl) (by kernel_rfl) (by kernel_rfl) (fun w => by kernel_rfl) ((C1.out _).mono ?_)
        rintro e v1 ⟨rfl, hb⟩
        have iT1 := iTD.below hb iTD.lt
        have hB1 : Below w.heap.size w v1 := hBD.trans (hb.mono hBD.size)
        clear hb
        refine ⟨_, rfl, iT1, ?_⟩
        try simp only [Act.put, List.setIfInBounds_toArray, List.set_cons_succ, List.set_cons_zero]
        refine wpAnyH_pure (i := 7) (o := { dst := some 9, op := Op.assign (Operand.tmp 37), type := 9, pos := "ref.go:38", after := #[{ on := 6, ground := Ground.data }, { on := 6, ground := Ground.chain }, { on := 0, ground := Ground.phase }, { on := 1, ground := Ground.phase }, { on := 2, ground := Ground.phase }, { on := 3, ground := Ground.phase }, { on := 4, ground := Ground.phase }, { on := 5, ground := Ground.phase }, { on := 6, ground := Ground.phase }], guard := none }) (v := .string T1) (by kernel_rfl) (by kernel_rfl) (by kernel_rfl) (by kernel_rfl) (fun _ _ _ h => h) (by kernel_rfl) (fun w hSw => by go_simp) iT1 ?_
        simp only [Act.put, List.setIfInBounds_toArray, List.set_cons_succ, List.set_cons_zero]
        refine wpAnyH_done (by kernel_rfl) ?_ _
        clear iTD hBD iT hB
        have hcv := run_convert_bytes_arg (P := Try.prog) (v1.alloc (.cells #[.int .u8 (z : Int)] 5)).drew 35 5 Try.underlying35 Try.underlying5 v1.heap.size 0 1 1 [(z : Int)] rfl (fun i hi => by
          obtain rfl : i = 0 := by omega
          exact (Is.new v1 5 #[.int .u8 (z : Int)]).cell 0) 9 Try.underlying9
        rw [← HZ1.out] at hcv
        go_wp2
        refine wp_region_held_drew (S := fun _ => True) (by kernel_rfl) trivial (fun hS => ?_)
        change wpAnyH _ _ (opsOf Try.f23 10) _ _ 10 (Array.replicate 10 false) _ _
        refine wpAnyH_pure (i := 0) (o := { dst := some 38, op := Op.move (Operand.tmp 9), type := 9, pos := "ref.go:39", after := #[], guard := none }) (v := .string T1) (by kernel_rfl) (by kernel_rfl) (by kernel_rfl) (by kernel_rfl) (fun _ _ _ h => h) (by kernel_rfl) (fun w hSw => by kernel_rfl) hS ?_
        simp only [Act.put, List.setIfInBounds_toArray, List.set_cons_succ, List.set_cons_zero]
        refine wpAnyH_pure (i := 1) (o := { dst := some 39, op := Op.index 9 (Operand.tmp 38) (Operand.const (Value.int IntKind.i64 0)), type := 5, pos := "ref.go:39", after := #[{ on := 0, ground := Ground.data }], guard := none }) (v := .int .u8 (y : Int)) (by kernel_rfl) (by kernel_rfl) (by kernel_rfl) (by kernel_rfl) (fun _ _ _ h => h) (by kernel_rfl) (fun w hSw => by go_simp) hS ?_
        simp only [Act.put, List.setIfInBounds_toArray, List.set_cons_succ, List.set_cons_zero]
        refine wpAnyH_pure (i := 2) (o := { dst := some 40, op := Op.move (Operand.tmp 7), type := 5, pos := "ref.go:39", after := #[], guard := none }) (v := .int .u8 (c : Int)) (by kernel_rfl) (by kernel_rfl) (by kernel_rfl) (by kernel_rfl) (fun _ _ _ h => h) (by kernel_rfl) (fun w hSw => by kernel_rfl) hS ?_
        simp only [Act.put, List.setIfInBounds_toArray, List.set_cons_succ, List.set_cons_zero]
        refine wpAnyH_pure (i := 3) (o := { dst := some 41, op := Op.binOp BinOp.xor 5 (Operand.tmp 39) (Operand.tmp 40) 5, type := 5, pos := "ref.go:39", after := #[{ on := 1, ground := Ground.data }, { on := 2, ground := Ground.data }], guard := none }) (v := .int .u8 (z : Int)) (by kernel_rfl) (by kernel_rfl) (by kernel_rfl) (by kernel_rfl) (fun _ _ _ h => h) (by kernel_rfl) (fun w hSw => by go_simp) hS ?_
        simp only [Act.put, List.setIfInBounds_toArray, List.set_cons_succ, List.set_cons_zero]
        refine wpAnyH_pure (i := 6) (o := { dst := some 44, op := Op.move (Operand.tmp 9), type := 9, pos := "ref.go:39", after := #[], guard := none }) (v := .string T1) (by kernel_rfl) (by kernel_rfl) (by kernel_rfl) (by kernel_rfl) (fun _ _ _ h => h) (by kernel_rfl) (fun w hSw => by kernel_rfl) hS ?_
        simp only [Act.put, List.setIfInBounds_toArray, List.set_cons_succ, List.set_cons_zero]
        refine wpAnyH_pure (i := 7) (o := { dst := some 45, op := Op.slice 9 (Operand.tmp 44) (some (Operand.const (Value.int IntKind.i64 1))) none none, type := 9, pos := "ref.go:39", after := #[{ on := 6, ground := Ground.data }], guard := none }) (v := .string TD) (by kernel_rfl) (by kernel_rfl) (by kernel_rfl) (by kernel_rfl) (fun _ _ _ h => h) (by kernel_rfl) (fun w hSw => by go_simp) hS ?_
        simp only [Act.put, List.setIfInBounds_toArray, List.set_cons_succ, List.set_cons_zero]
        refine wpAnyH_step (i := 4) (o := { dst := some 42, op := Op.buildSlice 35 1 #[(0, Operand.tmp 41)], type := 35, pos := "ref.go:39", after := #[{ on := 3, ground := Ground.data }], guard := none }) (by kernel_rfl) (by kernel_rfl) (by kernel_rfl) (fun Kc hKc => ?_)
        go_simp
        refine hKc.out _ _ trivial (fun _ => ?_)
        clear hKc Kc
        try simp only [Act.put, List.setIfInBounds_toArray, List.set_cons_succ, List.set_cons_zero]
        refine wpAnyH_step (i := 5) (o := { dst := some 43, op := Op.convert 35 9 (Operand.tmp 42), type := 9, pos := "ref.go:39", after := #[{ on := 4, ground := Ground.data }], guard := none }) (by kernel_rfl) (by kernel_rfl) (by kernel_rfl) (fun Kc hKc => ?_)
        go_simp
        refine hKc.out _ _ trivial (fun _ => ?_)
        clear hKc Kc
        try simp only [Act.put, List.setIfInBounds_toArray, List.set_cons_succ, List.set_cons_zero]
        refine wpAnyH_pure (i := 8) (o := { dst := some 46, op := Op.binOp BinOp.add 9 (Operand.tmp 43) (Operand.tmp 45) 9, type := 9, pos := "ref.go:39", after := #[{ on := 5, ground := Ground.data }, { on := 7, ground := Ground.data }], guard := none }) (v := .string T2) (by kernel_rfl) (by kernel_rfl) (by kernel_rfl) (by kernel_rfl) (fun _ _ _ h => h) (by kernel_rfl) (fun w hSw => by go_simp) trivial ?_
        simp only [Act.put, List.setIfInBounds_toArray, List.set_cons_succ, List.set_cons_zero]
        refine wpAnyH_pure (i := 9) (o := { dst := some 9, op := Op.assign (Operand.tmp 46), type := 9, pos := "ref.go:39", after := #[{ on := 8, ground := Ground.data }, { on := 0, ground := Ground.phase }, { on := 1, ground := Ground.phase }, { on := 2, ground := Ground.phase }, { on := 3, ground := Ground.phase }, { on := 4, ground := Ground.phase }, { on := 5, ground := Ground.phase }, { on := 6, ground := Ground.phase }, { on := 7, ground := Ground.phase }, { on := 8, ground := Ground.phase }], guard := none }) (v := .string T2) (by kernel_rfl) (by kernel_rfl) (by kernel_rfl) (by kernel_rfl) (fun _ _ _ h => h) (by kernel_rfl) (fun w hSw => by go_simp) trivial ?_
        simp only [Act.put, List.setIfInBounds_toArray, List.set_cons_succ, List.set_cons_zero]
        refine wpAnyH_done (by kernel_rfl) ?_ _
        have iT : Is (v1.alloc (.cells #[.int .u8 (z : Int)] 5)).drew w.heap.size 56 RT := iT1.alloc _
        have hB : Below w.heap.size w (v1.alloc (.cells #[.int .u8 (z : Int)] 5)).drew := belowN (hB1.alloc hB1.size _) 1
        generalize (v1.alloc (.cells #[.int .u8 (z : Int)] 5)).drew = v2 at *
        clear hcv iT1 hB1
        go_wp2_with (first
          | (go_at_call 27; refine (MU.out _).mono ?_; rintro e v ⟨rfl, rfl⟩)
          | (go_at_call 29; refine (C4.out _).mono ?_; rintro e v ⟨rfl, hb⟩; replace iT := iT.below hb iT.lt; replace hB := hB.trans (hb.mono hB.size); clear hb))
        go_roundw
        case rel => exact ⟨q + 1, by omega, by omega, by go_num, by rw [HSC.out], by rw [HSL.out], iT, hB⟩
        case measure => simp [intOf]; omega
      · have t0 : ((R : Int) == 0) = false := by simp; omega
        have hK : keyT 4 q c T0 = T0 := by unfold keyT; dsimp only; rw [if_neg (fun h => absurd h.1 (by decide)), if_neg (by omega)]
        have hC : (if q % 4 = 0 then mulN 2 c else c) = c := if_neg (by omega)
        rw [hK, hC] at hst
        have C4 := Lib.hid (fun w => lXor WW T0 w (by rw [hWl]; omega) (by rw [hWl]; omega) (by rw [hT0l, hWl]) hWb hT0b)
        rw [← hTT] at C4
        have hXl : (strN (xorB WW (T0))).size = 4 := by rw [strN_size, xorB, List.length_zipWith, hWl, hT0l]; rfl
        have hcat : LL ++ strN (xorB WW (T0)) = strN (L ++ xorB WW (T0)) := by rw [hLL, strN_app]
        have hnl : ¬ (9223372036854775807 < LL.size + (strN (xorB WW (T0))).size) := by rw [hXl, hLs]; omega
        obtain ⟨LN, hLN⟩ : ∃ LN, LN = strN (L ++ xorB WW (T0)) := ⟨_, rfl⟩
        rw [← hLN] at hcat
        have HSL := Lib.hid (show strN (expN (natL key) 4 (q + 1 - 4)).1 = LN by rw [hst, hLN])
        have HSC := Lib.hid (show (expN (natL key) 4 (q + 1 - 4)).2 = c by rw [hst])
        clear hst hLN hXl
        generalize strN (xorB WW (T0)) = XX at *
        generalize strN WW = WS at *
        clear hLL hLs hT0l hT0b hWl hWb hL hLb hTT hK hC
        clear hR
        go_wp2_with (go_at_call 29; refine (C4.out _).mono ?_; rintro e v ⟨rfl, hb⟩; replace iT := iT.below hb iT.lt; replace hB := hB.trans (hb.mono hB.size); clear hb)
        go_roundw
        case rel => exact ⟨q + 1, by omega, by omega, by go_num, by rw [HSC.out], by rw [HSL.out], iT, hB⟩
        case measure => simp [intOf]; omega
    · obtain rfl : q = 44 := by omega
      rw [show 44 - 4 = 40 from rfl]
      generalize hV : (expN (natL key) 4 40).1 = V at *
      have HV := Lib.hid hV
      clear hV
      go_wp2
      go_ret
      exact ⟨by rw [HV.out]; rfl, hB⟩

set_option maxRecDepth 100000 in
set_option maxHeartbeats 8000000 in
theorem rexp_8 (key : ByteArray) (w : World) (hk : key.size = 32) :
    Calls Try.prog 23 #[.string key, .agg (nA TS)] w fun e w' => e = .returned (.string (strN (expN (natL key) 8 52).1)) ∧ Below w.heap.size w w' := by
  have hkl : (natL key).length = 4 * 8 := by rw [natL_len, hk]
  have HLEN := Lib.hid (fun j => expN_len (key := natL key) (n := 8) hkl (by omega) j)
  have HBY := Lib.hid (fun j => expN_lt (key := natL key) (n := 8) (natL_lt key) j)
  have HK := Lib.hid (show strN (expN (natL key) 8 0).1 = key from strN_natL key)
  have hkz : (key.size : Int) = 32 := by rw [hk]; rfl
  have hin := ts_in
  have SB := Lib.hid lSub
  have iT : Is (w.alloc (.cells (nA TS) 56)) w.heap.size 56 (nA TS) := Is.new w _ _
  have hB0 : Below w.heap.size w (w.alloc (.cells (nA TS) 56)) := (Below.refl _ _).alloc (Nat.le_refl _) _
  generalize nA TS = RT at *
  clear hk hkl
  go_enter Try.func23, Try.ntmps23
  go_wp2
  go_loopw [6, 7, 8] (fun o cc i wr => ∃ q : Nat, 8 ≤ q ∧ q ≤ 60 ∧ i = .int .i64 (q : Int) ∧ cc = .int .u8 (((expN (natL key) 8 (q - 8)).2 : Nat) : Int) ∧ o = .string (strN (expN (natL key) 8 (q - 8)).1) ∧ Is wr w.heap.size 56 RT ∧ Below w.heap.size w wr)
    (fun _ _ i _ => 60 - (intOf i).toNat)
  case atStart => exact ⟨8, by omega, by omega, rfl, rfl, by rw [Nat.sub_self, HK.out], iT, hB0⟩
  case round =>
    clear iT hB0
    obtain ⟨q, hq0, hq1, rfl, rfl, rfl, iT, hB⟩ := hrel
    by_cases hlt : q < 60
    · have hd1 : (q : Int) < 60 := by omega
      obtain ⟨j, hj⟩ : ∃ j : Nat, j = q - 8 := ⟨_, rfl⟩
      have hst : expN (natL key) 8 (q + 1 - 8) = expS 8 (expN (natL key) 8 j) q := by
        rw [show q + 1 - 8 = j + 1 by omega]
        show expS 8 (expN (natL key) 8 j) (8 + j) = _
        rw [show 8 + j = q by omega]
      rw [← hj]
      have hL := HLEN.out j
      rw [show 4 * (8 + j) = 4 * q by omega] at hL
      have hLb := (HBY.out j).1
      have hcb := (HBY.out j).2
      generalize expN (natL key) 8 j = st at *
      obtain ⟨L, c⟩ := st
      dsimp only at hL hLb hcb hst ⊢
      unfold expS at hst
      dsimp only at hst
      rw [show q - 8 = j from hj.symm] at hst
      have hm : (q : Int) - 8 = (j : Int) := by omega
      have s7 := fun wx => run_slice_from (P := Try.prog) (t := 9) Try.underlying9 hLb (4 * q - 4) (4 * (q : Int) - 4) (by omega) (by omega) wx
      have s14 := fun wx => run_slice_mid (P := Try.prog) (t := 9) Try.underlying9 hLb (4 * j) (4 * j + 4) (4 * (j : Int)) (4 * (j : Int) + 4) (by omega) (by omega) (by omega) (by omega) wx
      rw [show 4 * j + 4 - 4 * j = 4 by omega] at s14
      have hT0l : (L.drop (4 * q - 4)).length = 4 := by rw [List.length_drop, hL]; omega
      have hT0b : ∀ x ∈ L.drop (4 * q - 4), x < 256 := fun x hx => hLb x (List.drop_subset _ _ hx)
      have hWl : ((L.drop (4 * j)).take 4).length = 4 := by rw [List.length_take, List.length_drop, hL]; omega
      have hWb : ∀ x ∈ (L.drop (4 * j)).take 4, x < 256 := fun x hx => hLb x (List.drop_subset _ _ (List.take_subset _ _ hx))
      obtain ⟨LL, hLL⟩ : ∃ LL, LL = strN L := ⟨_, rfl⟩
      have hLs : LL.size = 4 * q := by rw [hLL, strN_size, hL]
      rw [← hLL] at s7 s14 ⊢
      generalize L.drop (4 * q - 4) = T0 at *
      generalize (L.drop (4 * j)).take 4 = WW at *
      obtain ⟨TT, hTT⟩ : ∃ TT, TT = strN T0 := ⟨_, rfl⟩
      rw [← hTT] at s7
      obtain ⟨R, hR⟩ : ∃ R : Nat, R = q % 8 := ⟨_, rfl⟩
      have hr1 : (q : Int).tmod 8 = (R : Int) := by rw [Int.tmod_eq_emod_of_nonneg (by omega)]; omega
      have hr2 : (q : Int) % 8 = (R : Int) := by omega
      have hj0 : 4 * q ≤ 240 := by omega
      clear hj
      by_cases hr0 : R = 0
      · have t0 : ((R : Int) == 0) = true := by rw [hr0]; rfl
        have t4 : ((R : Int) == 4) = false := by rw [hr0]; rfl
        have hK : keyT 8 q c T0 = hdX c (subL (T0.drop 1 ++ T0.take 1)) := by unfold keyT; dsimp only; rw [if_neg (by omega), if_pos (by omega)]
        have hC : (if q % 8 = 0 then mulN 2 c else c) = mulN 2 c := if_pos (by omega)
        rw [hK, hC] at hst
        have hUl : (T0.drop 1 ++ T0.take 1).length = 4 := by rw [List.length_append, List.length_drop, List.length_take, hT0l]; rfl
        have hUb : ∀ x ∈ T0.drop 1 ++ T0.take 1, x < 256 := fun x hx => by
          rcases List.mem_append.1 hx with h | h
          · exact hT0b x (List.drop_subset _ _ h)
          · exact hT0b x (List.take_subset _ _ h)
        have s9a := fun wx => run_slice_from (P := Try.prog) (t := 9) Try.underlying9 hT0b 1 1 rfl (by omega) wx
        have s9b := fun wx => run_slice_to (P := Try.prog) (t := 9) Try.underlying9 hT0b 1 1 rfl (by omega) wx
        have hcu : strN (T0.drop 1) ++ strN (T0.take 1) = strN (T0.drop 1 ++ T0.take 1) := by rw [strN_app]
        have hnu : ¬ (9223372036854775807 < (strN (T0.drop 1)).size + (strN (T0.take 1)).size) := by rw [strN_size, strN_size, List.length_drop, List.length_take]; omega
        have C1 := Lib.hid (fun w => SB.out (T0.drop 1 ++ T0.take 1) w (by omega) (by omega) hUb)
        rw [← hTT] at s9a s9b
        have hVl : (subL (T0.drop 1 ++ T0.take 1)).length = 4 := by rw [subL, List.length_map, hUl]
        have hVb := subL_lt hUb
        generalize subL (T0.drop 1 ++ T0.take 1) = V at *
        generalize T0.drop 1 ++ T0.take 1 = U at *
        have s10 := fun wx => run_slice_from (P := Try.prog) (t := 9) Try.underlying9 hVb 1 1 rfl (by omega) wx
        have h0l : 0 < (strN V).size := by rw [strN_size, hVl]; decide
        have h0k : (0 : Int) < ((strN V).size : Int) := by omega
        have g0 := btN_get h0l
        rw [btN_nat V hVb 0] at g0
        have hx := u8_xor_nat (V.getD 0 0) c (getD_mem_lt hVb 0) hcb
        have hzl : V.getD 0 0 ^^^ c < 256 := Nat.xor_lt_two_pow (n := 8) (getD_mem_lt hVb 0) hcb
        have hhd : hdX c V = [V.getD 0 0 ^^^ c] ++ V.drop 1 := by
          match V, hVl with
          | a :: b, _ => rfl
        rw [hhd] at hst
        have hDl : ([V.getD 0 0 ^^^ c] ++ V.drop 1).length = 4 := by rw [List.length_append, List.length_drop, hVl]; rfl
        have hDb : ∀ x ∈ [V.getD 0 0 ^^^ c] ++ V.drop 1, x < 256 := fun x hx => by
          rcases List.mem_append.1 hx with h | h
          · rw [List.mem_singleton] at h; omega
          · exact hVb x (List.drop_subset _ _ h)
        have hcd : strN [V.getD 0 0 ^^^ c] ++ strN (V.drop 1) = strN ([V.getD 0 0 ^^^ c] ++ V.drop 1) := by rw [strN_app]
        have hnd : ¬ (9223372036854775807 < (strN [V.getD 0 0 ^^^ c]).size + (strN (V.drop 1)).size) := by rw [strN_size, strN_size, List.length_drop, List.length_singleton]; omega
        have MU := Lib.hid (fun w => rmul_any 2 c w (by decide) hcb)
        have C4 := Lib.hid (fun w => lXor WW ([V.getD 0 0 ^^^ c] ++ V.drop 1) w (by rw [hWl]; omega) (by rw [hWl]; omega) (by rw [hDl, hWl]) hWb hDb)
        have hXl : (strN (xorB WW ([V.getD 0 0 ^^^ c] ++ V.drop 1))).size = 4 := by rw [strN_size, xorB, List.length_zipWith, hWl, hDl]; rfl
        have hcat : LL ++ strN (xorB WW ([V.getD 0 0 ^^^ c] ++ V.drop 1)) = strN (L ++ xorB WW ([V.getD 0 0 ^^^ c] ++ V.drop 1)) := by rw [hLL, strN_app]
        have hnl : ¬ (9223372036854775807 < LL.size + (strN (xorB WW ([V.getD 0 0 ^^^ c] ++ V.drop 1))).size) := by rw [hXl, hLs]; omega
        obtain ⟨LN, hLN⟩ : ∃ LN, LN = strN (L ++ xorB WW ([V.getD 0 0 ^^^ c] ++ V.drop 1)) := ⟨_, rfl⟩
        rw [← hLN] at hcat
        have HSL := Lib.hid (show strN (expN (natL key) 8 (q + 1 - 8)).1 = LN by rw [hst, hLN])
        have HSC := Lib.hid (show (expN (natL key) 8 (q + 1 - 8)).2 = mulN 2 c by rw [hst])
        clear hst hLN hXl
        generalize strN (xorB WW ([V.getD 0 0 ^^^ c] ++ V.drop 1)) = XX at *
        generalize strN WW = WS at *
        clear hLL hLs hT0l hT0b hWl hWb hL hLb hTT hK hC
        have hz1 : strN [V.getD 0 0 ^^^ c] = strOfNums [((V.getD 0 0 ^^^ c : Nat) : Int)] := rfl
        generalize strN ([V.getD 0 0 ^^^ c] ++ V.drop 1) = T2 at *
        generalize strN (V.drop 1) = TD at *
        generalize strN [V.getD 0 0 ^^^ c] = ZS at *
        generalize V.getD 0 0 ^^^ c = z at *
        generalize V.getD 0 0 = y at *
        generalize strN V = T1 at *
        generalize strN U = P1 at *
        generalize strN (T0.drop 1) = TA at *
        generalize strN (T0.take 1) = TZ at *
        generalize mulN 2 c = c2 at *
        have HZ1 := Lib.hid hz1
        clear hVl hVb hUl hUb hDl hDb hhd hzl hR hz1
        have iTD : Is wr.drew w.heap.size 56 RT := iT
        have hBD : Below w.heap.size w wr.drew := belowN hB 1
        go_wp2
        refine wp_region_held_drew (S := fun W => Is W w.heap.size 56 RT) (by kernel_rfl) iTD (fun hS => ?_)
        change wpAnyH _ _ (opsOf Try.f23 9) _ _ 8 (Array.replicate 8 false) _ _
        refine wpAnyH_pure (i := 0) (o := { dst := some 31, op := Op.move (Operand.tmp 9), type := 9, pos := "ref.go:38", after := #[], guard := none }) (v := .string TT) (by kernel_rfl) (by kernel_rfl) (by kernel_rfl) (by kernel_rfl) (fun _ _ _ h => h) (by kernel_rfl) (fun w hSw => by kernel_rfl) hS ?_
        simp only [Act.put, List.setIfInBounds_toArray, List.set_cons_succ, List.set_cons_zero]
        refine wpAnyH_pure (i := 1) (o := { dst := some 32, op := Op.slice 9 (Operand.tmp 31) (some (Operand.const (Value.int IntKind.i64 1))) none none, type := 9, pos := "ref.go:38", after := #[{ on := 0, ground := Ground.data }], guard := none }) (v := .string TA) (by kernel_rfl) (by kernel_rfl) (by kernel_rfl) (by kernel_rfl) (fun _ _ _ h => h) (by kernel_rfl) (fun w hSw => by go_simp) hS ?_
        simp only [Act.put, List.setIfInBounds_toArray, List.set_cons_succ, List.set_cons_zero]
        refine wpAnyH_pure (i := 2) (o := { dst := some 33, op := Op.move (Operand.tmp 9), type := 9, pos := "ref.go:38", after := #[], guard := none }) (v := .string TT) (by kernel_rfl) (by kernel_rfl) (by kernel_rfl) (by kernel_rfl) (fun _ _ _ h => h) (by kernel_rfl) (fun w hSw => by kernel_rfl) hS ?_
        simp only [Act.put, List.setIfInBounds_toArray, List.set_cons_succ, List.set_cons_zero]
        refine wpAnyH_pure (i := 3) (o := { dst := some 34, op := Op.slice 9 (Operand.tmp 33) none (some (Operand.const (Value.int IntKind.i64 1))) none, type := 9, pos := "ref.go:38", after := #[{ on := 2, ground := Ground.data }], guard := none }) (v := .string TZ) (by kernel_rfl) (by kernel_rfl) (by kernel_rfl) (by kernel_rfl) (fun _ _ _ h => h) (by kernel_rfl) (fun w hSw => by go_simp) hS ?_
        simp only [Act.put, List.setIfInBounds_toArray, List.set_cons_succ, List.set_cons_zero]
        refine wpAnyH_pure (i := 4) (o := { dst := some 35, op := Op.binOp BinOp.add 9 (Operand.tmp 32) (Operand.tmp 34) 9, type := 9, pos := "ref.go:38", after := #[{ on := 1, ground := Ground.data }, { on := 3, ground := Ground.data }], guard := none }) (v := .string P1) (by kernel_rfl) (by kernel_rfl) (by kernel_rfl) (by kernel_rfl) (fun _ _ _ h => h) (by kernel_rfl) (fun w hSw => by go_simp) hS ?_
        simp only [Act.put, List.setIfInBounds_toArray, List.set_cons_succ, List.set_cons_zero]
        refine wpAnyH_pure (i := 5) (o := { dst := some 36, op := Op.load 56 (Operand.tmp 3), type := 56, pos := "ref.go:38", after := #[], guard := none }) (v := .agg RT) (by kernel_rfl) (by kernel_rfl) (by kernel_rfl) (by kernel_rfl) (fun _ _ _ h => h) (by kernel_rfl) (fun w hSw => by exact run_load_rowO rfl rfl hSw Try.underlying56 rfl hin) hS ?_
        simp only [Act.put, List.setIfInBounds_toArray, List.set_cons_succ, List.set_cons_zero]
        refine wpAnyH_call (i := 6) (o := { dst := some 37, op := Op.call { callee := Callee.value (Operand.func 31), args := #[Operand.tmp 35, Operand.tmp 36], argTypes := #[9, 56] }, type := 9, pos := "ref.go:38", after := #[{ on := 4, ground := Ground.data }, { on := 5, ground := Ground.data }], guard := none }) (by kernel_rfl) (by kernel_rfl) (by kernel_rfl) (fun w => by kernel_rfl) ((C1.out _).mono ?_)
        rintro e v1 ⟨rfl, hb⟩
        have iT1 := iTD.below hb iTD.lt
        have hB1 : Below w.heap.size w v1 := hBD.trans (hb.mono hBD.size)
        clear hb
        refine ⟨_, rfl, iT1, ?_⟩
        try simp only [Act.put, List.setIfInBounds_toArray, List.set_cons_succ, List.set_cons_zero]
        refine wpAnyH_pure (i := 7) (o := { dst := some 9, op := Op.assign (Operand.tmp 37), type := 9, pos := "ref.go:38", after := #[{ on := 6, ground := Ground.data }, { on := 6, ground := Ground.chain }, { on := 0, ground := Ground.phase }, { on := 1, ground := Ground.phase }, { on := 2, ground := Ground.phase }, { on := 3, ground := Ground.phase }, { on := 4, ground := Ground.phase }, { on := 5, ground := Ground.phase }, { on := 6, ground := Ground.phase }], guard := none }) (v := .string T1) (by kernel_rfl) (by kernel_rfl) (by kernel_rfl) (by kernel_rfl) (fun _ _ _ h => h) (by kernel_rfl) (fun w hSw => by go_simp) iT1 ?_
        simp only [Act.put, List.setIfInBounds_toArray, List.set_cons_succ, List.set_cons_zero]
        refine wpAnyH_done (by kernel_rfl) ?_ _
        clear iTD hBD iT hB
        have hcv := run_convert_bytes_arg (P := Try.prog) (v1.alloc (.cells #[.int .u8 (z : Int)] 5)).drew 35 5 Try.underlying35 Try.underlying5 v1.heap.size 0 1 1 [(z : Int)] rfl (fun i hi => by
          obtain rfl : i = 0 := by omega
          exact (Is.new v1 5 #[.int .u8 (z : Int)]).cell 0) 9 Try.underlying9
        rw [← HZ1.out] at hcv
        go_wp2
        refine wp_region_held_drew (S := fun _ => True) (by kernel_rfl) trivial (fun hS => ?_)
        change wpAnyH _ _ (opsOf Try.f23 10) _ _ 10 (Array.replicate 10 false) _ _
        refine wpAnyH_pure (i := 0) (o := { dst := some 38, op := Op.move (Operand.tmp 9), type := 9, pos := "ref.go:39", after := #[], guard := none }) (v := .string T1) (by kernel_rfl) (by kernel_rfl) (by kernel_rfl) (by kernel_rfl) (fun _ _ _ h => h) (by kernel_rfl) (fun w hSw => by kernel_rfl) hS ?_
        simp only [Act.put, List.setIfInBounds_toArray, List.set_cons_succ, List.set_cons_zero]
        refine wpAnyH_pure (i := 1) (o := { dst := some 39, op := Op.index 9 (Operand.tmp 38) (Operand.const (Value.int IntKind.i64 0)), type := 5, pos := "ref.go:39", after := #[{ on := 0, ground := Ground.data }], guard := none }) (v := .int .u8 (y : Int)) (by kernel_rfl) (by kernel_rfl) (by kernel_rfl) (by kernel_rfl) (fun _ _ _ h => h) (by kernel_rfl) (fun w hSw => by go_simp) hS ?_
        simp only [Act.put, List.setIfInBounds_toArray, List.set_cons_succ, List.set_cons_zero]
        refine wpAnyH_pure (i := 2) (o := { dst := some 40, op := Op.move (Operand.tmp 7), type := 5, pos := "ref.go:39", after := #[], guard := none }) (v := .int .u8 (c : Int)) (by kernel_rfl) (by kernel_rfl) (by kernel_rfl) (by kernel_rfl) (fun _ _ _ h => h) (by kernel_rfl) (fun w hSw => by kernel_rfl) hS ?_
        simp only [Act.put, List.setIfInBounds_toArray, List.set_cons_succ, List.set_cons_zero]
        refine wpAnyH_pure (i := 3) (o := { dst := some 41, op := Op.binOp BinOp.xor 5 (Operand.tmp 39) (Operand.tmp 40) 5, type := 5, pos := "ref.go:39", after := #[{ on := 1, ground := Ground.data }, { on := 2, ground := Ground.data }], guard := none }) (v := .int .u8 (z : Int)) (by kernel_rfl) (by kernel_rfl) (by kernel_rfl) (by kernel_rfl) (fun _ _ _ h => h) (by kernel_rfl) (fun w hSw => by go_simp) hS ?_
        simp only [Act.put, List.setIfInBounds_toArray, List.set_cons_succ, List.set_cons_zero]
        refine wpAnyH_pure (i := 6) (o := { dst := some 44, op := Op.move (Operand.tmp 9), type := 9, pos := "ref.go:39", after := #[], guard := none }) (v := .string T1) (by kernel_rfl) (by kernel_rfl) (by kernel_rfl) (by kernel_rfl) (fun _ _ _ h => h) (by kernel_rfl) (fun w hSw => by kernel_rfl) hS ?_
        simp only [Act.put, List.setIfInBounds_toArray, List.set_cons_succ, List.set_cons_zero]
        refine wpAnyH_pure (i := 7) (o := { dst := some 45, op := Op.slice 9 (Operand.tmp 44) (some (Operand.const (Value.int IntKind.i64 1))) none none, type := 9, pos := "ref.go:39", after := #[{ on := 6, ground := Ground.data }], guard := none }) (v := .string TD) (by kernel_rfl) (by kernel_rfl) (by kernel_rfl) (by kernel_rfl) (fun _ _ _ h => h) (by kernel_rfl) (fun w hSw => by go_simp) hS ?_
        simp only [Act.put, List.setIfInBounds_toArray, List.set_cons_succ, List.set_cons_zero]
        refine wpAnyH_step (i := 4) (o := { dst := some 42, op := Op.buildSlice 35 1 #[(0, Operand.tmp 41)], type := 35, pos := "ref.go:39", after := #[{ on := 3, ground := Ground.data }], guard := none }) (by kernel_rfl) (by kernel_rfl) (by kernel_rfl) (fun Kc hKc => ?_)
        go_simp
        refine hKc.out _ _ trivial (fun _ => ?_)
        clear hKc Kc
        try simp only [Act.put, List.setIfInBounds_toArray, List.set_cons_succ, List.set_cons_zero]
        refine wpAnyH_step (i := 5) (o := { dst := some 43, op := Op.convert 35 9 (Operand.tmp 42), type := 9, pos := "ref.go:39", after := #[{ on := 4, ground := Ground.data }], guard := none }) (by kernel_rfl) (by kernel_rfl) (by kernel_rfl) (fun Kc hKc => ?_)
        go_simp
        refine hKc.out _ _ trivial (fun _ => ?_)
        clear hKc Kc
        try simp only [Act.put, List.setIfInBounds_toArray, List.set_cons_succ, List.set_cons_zero]
        refine wpAnyH_pure (i := 8) (o := { dst := some 46, op := Op.binOp BinOp.add 9 (Operand.tmp 43) (Operand.tmp 45) 9, type := 9, pos := "ref.go:39", after := #[{ on := 5, ground := Ground.data }, { on := 7, ground := Ground.data }], guard := none }) (v := .string T2) (by kernel_rfl) (by kernel_rfl) (by kernel_rfl) (by kernel_rfl) (fun _ _ _ h => h) (by kernel_rfl) (fun w hSw => by go_simp) trivial ?_
        simp only [Act.put, List.setIfInBounds_toArray, List.set_cons_succ, List.set_cons_zero]
        refine wpAnyH_pure (i := 9) (o := { dst := some 9, op := Op.assign (Operand.tmp 46), type := 9, pos := "ref.go:39", after := #[{ on := 8, ground := Ground.data }, { on := 0, ground := Ground.phase }, { on := 1, ground := Ground.phase }, { on := 2, ground := Ground.phase }, { on := 3, ground := Ground.phase }, { on := 4, ground := Ground.phase }, { on := 5, ground := Ground.phase }, { on := 6, ground := Ground.phase }, { on := 7, ground := Ground.phase }, { on := 8, ground := Ground.phase }], guard := none }) (v := .string T2) (by kernel_rfl) (by kernel_rfl) (by kernel_rfl) (by kernel_rfl) (fun _ _ _ h => h) (by kernel_rfl) (fun w hSw => by go_simp) trivial ?_
        simp only [Act.put, List.setIfInBounds_toArray, List.set_cons_succ, List.set_cons_zero]
        refine wpAnyH_done (by kernel_rfl) ?_ _
        have iT : Is (v1.alloc (.cells #[.int .u8 (z : Int)] 5)).drew w.heap.size 56 RT := iT1.alloc _
        have hB : Below w.heap.size w (v1.alloc (.cells #[.int .u8 (z : Int)] 5)).drew := belowN (hB1.alloc hB1.size _) 1
        generalize (v1.alloc (.cells #[.int .u8 (z : Int)] 5)).drew = v2 at *
        clear hcv iT1 hB1
        go_wp2_with (first
          | (go_at_call 27; refine (MU.out _).mono ?_; rintro e v ⟨rfl, rfl⟩)
          | (go_at_call 29; refine (C4.out _).mono ?_; rintro e v ⟨rfl, hb⟩; replace iT := iT.below hb iT.lt; replace hB := hB.trans (hb.mono hB.size); clear hb))
        go_roundw
        case rel => exact ⟨q + 1, by omega, by omega, by go_num, by rw [HSC.out], by rw [HSL.out], iT, hB⟩
        case measure => simp [intOf]; omega
      · by_cases hr4 : q % 8 = 4
        · have t0 : ((R : Int) == 0) = false := by simp; omega
          have t4 : ((R : Int) == 4) = true := by rw [show R = 4 by omega]; rfl
          have hK : keyT 8 q c T0 = subL T0 := by unfold keyT; dsimp only; rw [if_pos ⟨rfl, hr4⟩, if_neg (by omega)]
          have hC : (if q % 8 = 0 then mulN 2 c else c) = c := if_neg (by omega)
          rw [hK, hC] at hst
          have C2 := Lib.hid (fun w => SB.out T0 w (by rw [hT0l]; omega) (by rw [hT0l]; omega) hT0b)
          rw [← hTT] at C2
          have C4 := Lib.hid (fun w => lXor WW (subL T0) w (by rw [hWl]; omega) (by rw [hWl]; omega) (by rw [subL, List.length_map, hT0l, hWl]) hWb (subL_lt hT0b))
          have hXl : (strN (xorB WW (subL T0))).size = 4 := by rw [strN_size, xorB, List.length_zipWith, hWl, subL, List.length_map, hT0l]; rfl
          have hcat : LL ++ strN (xorB WW (subL T0)) = strN (L ++ xorB WW (subL T0)) := by rw [hLL, strN_app]
          have hnl : ¬ (9223372036854775807 < LL.size + (strN (xorB WW (subL T0))).size) := by rw [hXl, hLs]; omega
          obtain ⟨LN, hLN⟩ : ∃ LN, LN = strN (L ++ xorB WW (subL T0)) := ⟨_, rfl⟩
          rw [← hLN] at hcat
          have HSL := Lib.hid (show strN (expN (natL key) 8 (q + 1 - 8)).1 = LN by rw [hst, hLN])
          have HSC := Lib.hid (show (expN (natL key) 8 (q + 1 - 8)).2 = c by rw [hst])
          clear hst hLN hXl
          generalize strN (xorB WW (subL T0)) = XX at *
          generalize strN WW = WS at *
          clear hLL hLs hT0l hT0b hWl hWb hL hLb hTT hK hC
          generalize strN (subL T0) = T1 at *
          clear hR hr4
          go_wp2_with (first
            | (refine wpList_load_row rfl 56 _ rfl w.heap.size rfl _ _ _ _ iT Try.underlying56 rfl hin ?_)
            | (go_at_call 31; refine (C2.out _).mono ?_; rintro e v ⟨rfl, hb⟩; replace iT := iT.below hb iT.lt; replace hB := hB.trans (hb.mono hB.size); clear hb)
            | (go_at_call 29; refine (C4.out _).mono ?_; rintro e v ⟨rfl, hb⟩; replace iT := iT.below hb iT.lt; replace hB := hB.trans (hb.mono hB.size); clear hb))
          go_roundw
          case rel => exact ⟨q + 1, by omega, by omega, by go_num, by rw [HSC.out], by rw [HSL.out], iT, hB⟩
          case measure => simp [intOf]; omega
        · have t0 : ((R : Int) == 0) = false := by simp; omega
          have t4 : ((R : Int) == 4) = false := by simp; omega
          have hK : keyT 8 q c T0 = T0 := by unfold keyT; dsimp only; rw [if_neg (fun h => hr4 h.2), if_neg (by omega)]
          have hC : (if q % 8 = 0 then mulN 2 c else c) = c := if_neg (by omega)
          rw [hK, hC] at hst
          have C4 := Lib.hid (fun w => lXor WW T0 w (by rw [hWl]; omega) (by rw [hWl]; omega) (by rw [hT0l, hWl]) hWb hT0b)
          rw [← hTT] at C4
          have hXl : (strN (xorB WW (T0))).size = 4 := by rw [strN_size, xorB, List.length_zipWith, hWl, hT0l]; rfl
          have hcat : LL ++ strN (xorB WW (T0)) = strN (L ++ xorB WW (T0)) := by rw [hLL, strN_app]
          have hnl : ¬ (9223372036854775807 < LL.size + (strN (xorB WW (T0))).size) := by rw [hXl, hLs]; omega
          obtain ⟨LN, hLN⟩ : ∃ LN, LN = strN (L ++ xorB WW (T0)) := ⟨_, rfl⟩
          rw [← hLN] at hcat
          have HSL := Lib.hid (show strN (expN (natL key) 8 (q + 1 - 8)).1 = LN by rw [hst, hLN])
          have HSC := Lib.hid (show (expN (natL key) 8 (q + 1 - 8)).2 = c by rw [hst])
          clear hst hLN hXl
          generalize strN (xorB WW (T0)) = XX at *
          generalize strN WW = WS at *
          clear hLL hLs hT0l hT0b hWl hWb hL hLb hTT hK hC
          clear hR hr4
          go_wp2_with (go_at_call 29; refine (C4.out _).mono ?_; rintro e v ⟨rfl, hb⟩; replace iT := iT.below hb iT.lt; replace hB := hB.trans (hb.mono hB.size); clear hb)
          go_roundw
          case rel => exact ⟨q + 1, by omega, by omega, by go_num, by rw [HSC.out], by rw [HSL.out], iT, hB⟩
          case measure => simp [intOf]; omega
    · obtain rfl : q = 60 := by omega
      rw [show 60 - 8 = 52 from rfl]
      generalize hV : (expN (natL key) 8 52).1 = V at *
      have HV := Lib.hid hV
      clear hV
      go_wp2
      go_ret
      exact ⟨by rw [HV.out]; rfl, hB⟩
end Go.Proofs.Ytefiecgadbacjaa
namespace Go.Proofs.Ytefiecgadbacjaa
open Go.RowKit Go.Shelf

set_option maxRecDepth 100000 in
theorem rmay_any (key : ByteArray) (w : World) : Calls Try.prog 20 #[.string key] w fun e w' => e = .returned (.bool (mayB key)) ∧ w = w' := by
  by_cases h1 : key.size = 16
  · have e1 : ((key.size : Int) == 16) = true := by simp; omega
    have H := Lib.hid (show mayB key = true by simp [mayB, h1])
    clear h1
    go_enter Try.func20, Try.ntmps20
    go_wp2
    go_ret
    exact ⟨by rw [H.out]; rfl, rfl⟩
  · have e1 : ((key.size : Int) == 16) = false := by simp; omega
    by_cases h2 : key.size = 32
    · have e2 : ((key.size : Int) == 32) = true := by simp; omega
      have H := Lib.hid (show mayB key = true by simp [mayB, h2])
      clear h1 h2
      go_enter Try.func20, Try.ntmps20
      go_wp2
      go_ret
      exact ⟨by rw [H.out]; rfl, rfl⟩
    · have e2 : ((key.size : Int) == 32) = false := by simp; omega
      have H := Lib.hid (show mayB key = false by simp [mayB, h1, h2])
      clear h1 h2
      go_enter Try.func20, Try.ntmps20
      go_wp2
      go_ret
      exact ⟨by rw [H.out]; rfl, rfl⟩
theorem rmay_is (key : ByteArray) {b : Bool} (h : mayB key = b) (w : World) : Calls Try.prog 20 #[.string key] w fun e w' => e = .returned (.bool b) ∧ w = w' := by
  have := rmay_any key w
  rwa [h] at this
theorem rexpanded_any (key : ByteArray) (w : World) (h : mayB key = true) :
    Calls Try.prog 23 #[.string key, .agg (nA TS)] w fun e w' => e = .returned (.string (strN (expB (natL key)))) ∧ Below w.heap.size w w' := by
  have hs : key.size = 16 ∨ key.size = 32 := by simpa [mayB] using h
  rcases hs with hs | hs
  · have := rexp_4 key w hs
    rw [show expB (natL key) = (expN (natL key) 4 40).1 by rw [expB, natL_len, hs]]
    exact this
  · have := rexp_8 key w hs
    rw [show expB (natL key) = (expN (natL key) 8 52).1 by rw [expB, natL_len, hs]]
    exact this
set_option maxRecDepth 100000 in
set_option maxHeartbeats 1000000 in
theorem rencrypt_nokey (key block : ByteArray) (w : World) (h : mayB key = false) :
    Calls Try.prog 15 #[.string key, .string block] w fun e w' => e = .returned (.tuple #[.string ⟨#[]⟩, .int .i64 1]) ∧ w = w' := by
  have HK := Lib.hid (fun w => rmay_is key h w)
  clear h
  go_enter Try.func15, Try.ntmps15
  go_wp2_with (go_at_call 20; refine (HK.out _).mono ?_; rintro e w' ⟨rfl, rfl⟩)
  go_ret2
  exact ⟨rfl, rfl⟩
set_option maxRecDepth 100000 in
set_option maxHeartbeats 1000000 in
theorem rencrypt_noblock (key block : ByteArray) (w : World) (h : mayB key = true) (hb : block.size ≠ 16) :
    Calls Try.prog 15 #[.string key, .string block] w fun e w' => e = .returned (.tuple #[.string ⟨#[]⟩, .int .i64 1]) ∧ w = w' := by
  have HK := Lib.hid (fun w => rmay_is key h w)
  have e16 : ((block.size : Int) != 16) = true := by simp; omega
  clear h hb
  go_enter Try.func15, Try.ntmps15
  go_wp2_with (go_at_call 20; refine (HK.out _).mono ?_; rintro e w' ⟨rfl, rfl⟩)
  go_ret2
  exact ⟨rfl, rfl⟩

theorem aesE_run (key s : List Nat) : encN (rkN (expB key)) (rndsN key) s (rndsN key) = aesE key s := rfl
theorem expB_rnds {key : ByteArray} (h : mayB key = true) : (expB (natL key)).length = 16 * (rndsN (natL key) + 1) ∧ rndsN (natL key) ≤ 20 := by
  have hs : key.size = 16 ∨ key.size = 32 := by simpa [mayB] using h
  rw [expB_len (natL_key h), rndsN, natL_len]
  omega
theorem ts_row : (nA (zers 256)).size = (nA TS).size := by rw [nA_size, nA_size, ts_len, zers_len]
theorem tb_row : (nA (zers 256)).size = (nA TB).size := by rw [nA_size, nA_size, tb_len, zers_len]
set_option maxRecDepth 100000 in
set_option maxHeartbeats 2000000 in
theorem rencrypt_ok (key block : ByteArray) (w : World) (h : mayB key = true) (hb : block.size = 16) :
    Calls Try.prog 15 #[.string key, .string block] w fun e w' => e = .returned (.tuple #[.string (strN (aesE (natL key) (natL block))), .int .i64 0]) ∧ Below w.heap.size w w' := by
  obtain ⟨i6, hi6, hz6⟩ := info256
  have HM := Lib.hid (fun w => rmay_is key h w)
  have RS := Lib.hid rsubs_any
  have CX := Lib.hid (fun w => rexpanded_any key w h)
  have cr := fun w => rrun_any (expB (natL key)) (natL block) (rndsN (natL key)) w (expB_lt (natL_lt key)) (expB_rnds h).1 (expB_rnds h).2 (natL_blk hb)
  rw [aesE_run, strN_natL] at cr
  have CR := Lib.hid cr
  have hin := ts_in
  have hone := nA_one TS
  have hrow := ts_row
  have e16 : ((block.size : Int) != 16) = false := by rw [hb]; rfl
  generalize strN (aesE (natL key) (natL block)) = OUT at *
  generalize strN (expB (natL key)) = EX at *
  generalize nA TS = RT at *
  clear h hb cr
  go_enter Try.func15, Try.ntmps15
  go_wp2_with fail
  refine (HM.out _).mono ?_
  rintro e w' ⟨rfl, rfl⟩
  go_wp2_with fail
  refine (RS.out _).mono ?_
  rintro e w1 ⟨rfl, h1⟩
  have iT : Is (w1.alloc (.cells RT 56)) w1.heap.size 56 RT := Is.new w1 _ _
  have hB := h1.alloc h1.size (.cells RT 56)
  obtain ⟨W0, hW0⟩ : ∃ W0, W0 = w1.alloc (.cells RT 56) := ⟨_, rfl⟩
  rw [← hW0] at iT hB
  have HW0 := Lib.hid hW0
  clear hW0 h1
  go_wp2_with (first
    | (refine wpList_alloc_nA rfl 56 rfl (zers 256) hi6 hz6 ?_)
    | (refine wpList_store_row rfl 56 _ _ rfl w1.heap.size RT rfl rfl _ _ (heap_alloc_new w1 _) hin hrow hone ?_; rw [World.setRow_alloc_new, ← HW0.out]))
  obtain ⟨Bt, hBt⟩ : ∃ Bt, Bt = w1.heap.size := ⟨_, rfl⟩
  rw [← hBt] at iT ⊢
  clear hBt
  have iTD : Is W0.drew Bt 56 RT := iT
  have hBD : Below w.heap.size w W0.drew := belowN hB 1
  refine wp_region_held_drew (S := fun W => Is W Bt 56 RT) (by kernel_rfl) iTD (fun hS => ?_)
  change wpAnyH _ _ (opsOf Try.f15 4) _ _ 8 (Array.replicate 8 false) _ _
  refine wpAnyH_pure (i := 0) (o := { dst := some 16, op := Op.move (Operand.tmp 0), type := 9, pos := "ref.go:85", after := #[], guard := none }) (v := .string key) (by kernel_rfl) (by kernel_rfl) (by kernel_rfl) (by kernel_rfl) (fun _ _ _ h => h) (by kernel_rfl) (fun w hSw => by kernel_rfl) hS ?_
  simp only [Act.put, List.setIfInBounds_toArray, List.set_cons_succ, List.set_cons_zero]
  refine wpAnyH_pure (i := 1) (o := { dst := some 17, op := Op.load 56 (Operand.tmp 6), type := 56, pos := "ref.go:85", after := #[], guard := none }) (v := .agg RT) (by kernel_rfl) (by kernel_rfl) (by kernel_rfl) (by kernel_rfl) (fun _ _ _ h => h) (by kernel_rfl) (fun w hSw => by exact run_load_rowO rfl rfl hSw Try.underlying56 rfl hin) hS ?_
  simp only [Act.put, List.setIfInBounds_toArray, List.set_cons_succ, List.set_cons_zero]
  refine wpAnyH_pure (i := 3) (o := { dst := some 19, op := Op.move (Operand.tmp 1), type := 9, pos := "ref.go:85", after := #[], guard := none }) (v := .string block) (by kernel_rfl) (by kernel_rfl) (by kernel_rfl) (by kernel_rfl) (fun _ _ _ h => h) (by kernel_rfl) (fun w hSw => by kernel_rfl) hS ?_
  simp only [Act.put, List.setIfInBounds_toArray, List.set_cons_succ, List.set_cons_zero]
  refine wpAnyH_pure (i := 4) (o := { dst := some 20, op := Op.load 56 (Operand.tmp 6), type := 56, pos := "ref.go:85", after := #[], guard := none }) (v := .agg RT) (by kernel_rfl) (by kernel_rfl) (by kernel_rfl) (by kernel_rfl) (fun _ _ _ h => h) (by kernel_rfl) (fun w hSw => by exact run_load_rowO rfl rfl hSw Try.underlying56 rfl hin) hS ?_
  simp only [Act.put, List.setIfInBounds_toArray, List.set_cons_succ, List.set_cons_zero]
  refine wpAnyH_call (i := 2) (o := { dst := some 18, op := Op.call { callee := Callee.value (Operand.func 23), args := #[Operand.tmp 16, Operand.tmp 17], argTypes := #[9, 56] }, type := 9, pos := "ref.go:85", after := #[{ on := 0, ground := Ground.data }, { on := 1, ground := Ground.data }], guard := none }) (by kernel_rfl) (by kernel_rfl) (by kernel_rfl) (fun w => by kernel_rfl) ((CX.out _).mono ?_)
  rintro e v1 ⟨rfl, hb⟩
  have iT1 := iTD.below hb iTD.lt
  have hB1 : Below w.heap.size w v1 := hBD.trans (hb.mono hBD.size)
  clear hb
  refine ⟨_, rfl, iT1, ?_⟩
  try simp only [Act.put, List.setIfInBounds_toArray, List.set_cons_succ, List.set_cons_zero]
  refine wpAnyH_call (i := 5) (o := { dst := some 21, op := Op.call { callee := Callee.value (Operand.func 22), args := #[Operand.tmp 18, Operand.tmp 19, Operand.tmp 20], argTypes := #[9, 9, 56] }, type := 9, pos := "ref.go:85", after := #[{ on := 2, ground := Ground.data }, { on := 3, ground := Ground.data }, { on := 4, ground := Ground.data }, { on := 2, ground := Ground.chain }], guard := none }) (by kernel_rfl) (by kernel_rfl) (by kernel_rfl) (fun w => by kernel_rfl) ((CR.out _).mono ?_)
  rintro e v2 ⟨rfl, hb⟩
  have iT2 := iT1.below hb iT1.lt
  have hB2 : Below w.heap.size w v2 := hB1.trans (hb.mono hB1.size)
  clear hb
  refine ⟨_, rfl, iT2, ?_⟩
  try simp only [Act.put, List.setIfInBounds_toArray, List.set_cons_succ, List.set_cons_zero]
  refine wpAnyH_pure (i := 6) (o := { dst := some 4, op := Op.assign (Operand.tmp 21), type := 9, pos := "ref.go:85", after := #[{ on := 5, ground := Ground.data }, { on := 5, ground := Ground.chain }, { on := 0, ground := Ground.phase }, { on := 1, ground := Ground.phase }, { on := 2, ground := Ground.phase }, { on := 3, ground := Ground.phase }, { on := 4, ground := Ground.phase }, { on := 5, ground := Ground.phase }], guard := none }) (v := .string OUT) (by kernel_rfl) (by kernel_rfl) (by kernel_rfl) (by kernel_rfl) (fun _ _ _ h => h) (by kernel_rfl) (fun w hSw => by go_simp) iT2 ?_
  simp only [Act.put, List.setIfInBounds_toArray, List.set_cons_succ, List.set_cons_zero]
  refine wpAnyH_pure (i := 7) (o := { dst := some 5, op := Op.assign (Operand.const (Value.int IntKind.i64 0)), type := 26, pos := "ref.go:85", after := #[{ on := 6, ground := Ground.chain }, { on := 0, ground := Ground.phase }, { on := 1, ground := Ground.phase }, { on := 2, ground := Ground.phase }, { on := 3, ground := Ground.phase }, { on := 4, ground := Ground.phase }, { on := 5, ground := Ground.phase }, { on := 6, ground := Ground.phase }], guard := none }) (v := .int .i64 0) (by kernel_rfl) (by kernel_rfl) (by kernel_rfl) (by kernel_rfl) (fun _ _ _ h => h) (by kernel_rfl) (fun w hSw => by go_simp) iT2 ?_
  simp only [Act.put, List.setIfInBounds_toArray, List.set_cons_succ, List.set_cons_zero]
  refine wpAnyH_done (by kernel_rfl) ?_ _
  go_wp2
  go_ret2
  exact ⟨rfl, hB2⟩
theorem mix3 (S : List Nat) : mixL (mixL (mixL S)) = unmixL S := rfl
theorem rencrypt_any (key block : ByteArray) (w : World) :
    Calls Try.prog 15 #[.string key, .string block] w fun e w' => e = .returned (.tuple #[.string (encV key block), .int .i64 (errV (may2 key block))]) ∧ Below w.heap.size w w' := by
  cases h : mayB key with
  | true =>
    by_cases hb : block.size = 16
    · simpa [encV, errV, may2, h, hb] using rencrypt_ok key block w h hb
    · simpa [encV, errV, may2, h, hb] using (rencrypt_noblock key block w h hb).mono fun e w' ⟨h1, h2⟩ => (⟨h1, h2 ▸ Below.refl _ _⟩ : _ ∧ Below w.heap.size w w')
  | false => simpa [encV, errV, may2, h] using (rencrypt_nokey key block w h).mono fun e w' ⟨h1, h2⟩ => (⟨h1, h2 ▸ Below.refl _ _⟩ : _ ∧ Below w.heap.size w w')
end Go.Proofs.Ytefiecgadbacjaa
