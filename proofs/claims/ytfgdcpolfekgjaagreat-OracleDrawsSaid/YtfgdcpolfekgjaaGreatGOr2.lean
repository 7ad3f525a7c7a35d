/-
  Layer 9: contracts of oracle.counted and oracle.Ask, the program's, whatever they are asked.
  Layer 9: contracts of oracle.Right and oracle.New, the program's, whatever they are asked. Condition (Right): the oracle's lists lie where the slices point to.
  Layer 9: contracts of oracle.Label, Cell and Open, the program's, where the oracle is right, and what is asked may be asked. Condition: the oracle's lists lie where the slices point to; the two tables hold what Tabs tells (any words).
  Layer 9: contracts of the statements' own pick and Word.
  Layer 9: oracles in memory; contracts of the document's Same and Fresh, and of the statements' own Oracle where no question is asked.
  Layer 9: awake's region that draws its order: a cell of a text.
  Layer 9, plain: the chapter's example, as awake asks it: by a key, and by a tape of seventeen bytes. Nothing of the program stands here.
  Layer 9: awake, the statements' own: it answers true, whatever the two tables of words hold.
-/
import Derived.Test.YtfgdcpolfekgjaaGreatGOra
import Derived.Test.YtfgdcpolfekgjaaGreatGSea
import Derived.Test.YtfgdcpolfekgjaaGreatGOrc
import Derived.Test.YtfgdcpolfekgjaaGreatGIdy
import Derived.Test.YtfgdcpolfekgjaaGreatGIdx
namespace Go.Proofs.YtfgdcpolfekgjaaGreat
open Go.RowKit Go.Shelf

def cnt9 (n : Int) : Bool := decide (0 ≤ n) && decide (n ≤ 1000000)
theorem counted_any (n : Int) (w : World) : Calls Tryz.prog 34 #[.int .i64 n] w fun e w' => e = .returned (.bool (cnt9 n)) ∧ w = w' := by
  by_cases h1 : 0 ≤ n
  · have d1 : decide (0 ≤ n) = true := by simpa using h1
    have hc : cnt9 n = decide (n ≤ 1000000) := by rw [cnt9, d1, Bool.true_and]
    rw [hc]
    clear hc
    go_enter Tryz.func34, Tryz.ntmps34
    go_wp2
    go_ret
    exact ⟨rfl, rfl⟩
  · have d1 : decide (0 ≤ n) = false := by simpa using h1
    have hc : cnt9 n = false := by rw [cnt9, d1, Bool.false_and]
    rw [hc]
    clear hc
    go_enter Tryz.func34, Tryz.ntmps34
    go_wp2
    go_ret
    exact ⟨rfl, rfl⟩
theorem askE9_eq (w : ByteArray) (e c : Int) : askE9 w e c = (!decide (20 < (w.size : Int)) && (cnt9 e && cnt9 c)) := by
  rw [askE9, cnt9, cnt9]
  congr 1
  by_cases h : w.size ≤ 20
  · rw [decide_eq_true h, decide_eq_false (by omega)]; rfl
  · rw [decide_eq_false h, decide_eq_true (by omega)]; rfl
/-- a number's four bytes. -/
def fr9 (n : Int) : List Nat := (four9 n).map Int.toNat
theorem fr9_len (n : Int) : (fr9 n).length = 4 := rfl
theorem nat_nums9 (l : List Int) (h : ∀ x ∈ l, 0 ≤ x ∧ x < 256) : natL (strOfNums l) = l.map Int.toNat := by
  rw [natL, strOfNums_data, List.map_map]
  refine List.map_congr_left fun x hx => ?_
  have := h x hx
  show (UInt8.ofNat x.toNat).toNat = x.toNat
  rw [UInt8.toNat_ofNat']
  omega
theorem four9_bd (n : Int) : ∀ x ∈ four9 n, 0 ≤ x ∧ x < 256 := fun x hx => by
  simp only [four9, List.mem_cons, List.not_mem_nil, or_false] at hx
  rcases hx with rfl | rfl | rfl | rfl <;> omega
theorem ask9_strN (w : ByteArray) (e c : Int) (hw : w.size ≤ 20) : strN ([w.size] ++ natL w ++ fr9 e ++ fr9 c) = ask9 w e c := natL_inj (by
  have h1 : ∀ x ∈ ([w.size] ++ natL w ++ fr9 e ++ fr9 c), x < 256 := fun x hx => by
    simp only [List.mem_append, List.mem_singleton] at hx
    rcases hx with ((rfl | h) | h) | h
    · omega
    · exact natL_lt w x h
    · obtain ⟨y, hy, rfl⟩ := List.mem_map.1 h; have := four9_bd e y hy; omega
    · obtain ⟨y, hy, rfl⟩ := List.mem_map.1 h; have := four9_bd c y hy; omega
  have happ : ∀ a b : ByteArray, natL (a ++ b) = natL a ++ natL b := fun a b => by simp [natL]
  rw [strN_nat h1, ask9, happ, happ, happ, nat_nums9 _ (four9_bd e), nat_nums9 _ (four9_bd c), nat_nums9 [(w.size : Int)] (fun x hx => by rw [List.mem_singleton] at hx; omega)]
  simp [fr9])

set_option maxRecDepth 100000 in
set_option maxHeartbeats 1000000 in
theorem ask_ok (s : ByteArray) (e c : Int) (w : World) (hs : s.size ≤ 20) (he : cnt9 e = true) (hc : cnt9 c = true) :
    Calls Tryz.prog 16 #[.string s, .int .i64 e, .int .i64 c] w fun r w' => r = .returned (.tuple #[.string (ask9 s e c), .int .i64 0]) ∧ Below w.heap.size w w' := by
  obtain ⟨i0, hi, hz0, hz1, hz2⟩ := infoThree infoU8
  have hE : 0 ≤ e ∧ e ≤ 1000000 := by simpa [cnt9] using he
  have hC : 0 ≤ c ∧ c ≤ 1000000 := by simpa [cnt9] using hc
  have d1 : decide (20 < (s.size : Int)) = false := by simp; omega
  have CE := Lib.hid (fun w => counted_any e w)
  have CC := Lib.hid (fun w => counted_any c w)
  rw [he] at CE
  rw [hc] at CC
  have HA := Lib.hid (ask9_strN s e c hs)
  have hm : ((s.size : Int) % 256) = (s.size : Int) := by omega
  clear he hc
  have hfE : ∀ n : Int, 0 ≤ n ∧ n ≤ 1000000 → nL (fr9 n) = [.int .u8 (n / 16777216), .int .u8 (n / 65536), .int .u8 (n / 256 % 256), .int .u8 (n % 256)] := fun n hn => by
    simp only [nL, fr9, four9, List.map_cons, List.map_nil]
    rw [show n / 16777216 % 256 = n / 16777216 by omega, show n / 65536 % 256 = n / 65536 by omega, Int.toNat_of_nonneg (by omega), Int.toNat_of_nonneg (by omega), Int.toNat_of_nonneg (by omega), Int.toNat_of_nonneg (by omega)]
  have hx0 : ∀ wx : World, (Instr.index 42 (.agg #[.int .i64 e, .int .i64 c]) (.int .i64 0)).run Tryz.prog wx = .ok (.int .i64 e) wx := fun _ => by kernel_rfl
  have hx1 : ∀ wx : World, (Instr.index 42 (.agg #[.int .i64 e, .int .i64 c]) (.int .i64 1)).run Tryz.prog wx = .ok (.int .i64 c) wx := fun _ => by kernel_rfl
  have HFE := Lib.hid (hfE e hE)
  have HFC := Lib.hid (hfE c hC)
  clear hfE
  have hown0 : (w.alloc (.cells #[.int .u8 (s.size : Int)] 5)).ownsRow w.heap.size 5 1 (.slice (some ⟨w.heap.size, 0, none⟩) 1 1) 1 (nL [s.size]) := World.ownsRow_lit w #[.int .u8 (s.size : Int)] 1 (Nat.le_refl _) (by unfold maxLen; omega) rfl
  have hB0 : Below w.heap.size w (w.alloc (.cells #[.int .u8 (s.size : Int)] 5)) := (Below.refl _ _).alloc (Nat.le_refl _) _
  go_enter Tryz.func16, Tryz.ntmps16
  go_wp2_with (first
    | (go_at_call 34; refine (CE.out _).mono ?_; rintro e w' ⟨rfl, rfl⟩)
    | (go_at_call 34; refine (CC.out _).mono ?_; rintro e w' ⟨rfl, rfl⟩)
    | (at_builtin; refine Lib.wpList_append_own_string (w.alloc (.cells #[.int .u8 (s.size : Int)] 5)) rfl _ _ 63 9 rfl w.heap.size 5 i0 Tryz.underlying63 Tryz.underlying9 hi hz0 hz1 hz2 _ _ _ rfl hown0 s rfl ?c1 ?c2 hB0.size ?_))
  case c1 => unfold maxLen; omega
  case c2 => omega
  intro v1 w1 hown1 hgrow1 _
  have hB1 : Below w.heap.size w w1 := hB0.grown hgrow1 hB0.size (fun g e => by have := (hown0.lt g e).1; omega)
  rw [← nL_str, ← nL_app] at hown1
  clear hown0 hB0 hgrow1
  have hsz1 := hB1.size
  go_wp2
  go_loopw [8, 10, 33] (fun v _ i wr => ∃ k : Nat, k ≤ 2 ∧ i = .int .i64 k ∧ wr.ownsRow w.heap.size 5 1 v (1 + s.size + 4 * k) (nL ([s.size] ++ natL s ++ (fr9 e ++ fr9 c).take (4 * k))) ∧ Below w.heap.size w wr)
    (fun _ _ i _ => 2 - (intOf i).toNat)
  case atStart => exact ⟨0, by omega, rfl, by simpa using hown1, hB1⟩
  case round =>
    clear hown1 hB1 hsz1
    obtain ⟨k, hk, rfl, hown, hB⟩ := hrel
    have hsz1 := hB.size
    match k, hk, hown with
    | 0, _, hown =>
      have hk4 : (fr9 e ++ fr9 c).take (4 * 1) = (fr9 e ++ fr9 c).take (4 * 0) ++ fr9 e := by kernel_rfl
      have hM : [s.size] ++ natL s ++ (fr9 e ++ fr9 c).take (4 * 1) = ([s.size] ++ natL s ++ (fr9 e ++ fr9 c).take (4 * 0)) ++ fr9 e := by rw [hk4, ← List.append_assoc]
      generalize [s.size] ++ natL s ++ (fr9 e ++ fr9 c).take (4 * 0) = L at *
      have HK4 := Lib.hid hM
      clear hk4 hM
      go_wp2_with (at_builtin; refine wpList_append_own _ rfl _ _ 63 rfl w.heap.size 5 i0 (.int .u8 0) 1 1 Tryz.underlying63 hi hz0 hz1 hz2 rfl (by decide) _ _ _ rfl (hown.alloc _) ⟨wr.heap.size, 0, none⟩ 4 4 (nL (fr9 e)) rfl rfl ?c1 ?c2 ?c3 ?c4 ?c5 ?_)
      case c1 =>
        intro j u hj
        rw [HFE.out] at hj
        rw [Addr.add_lit, Nat.zero_add, (Is.new wr _ _).cell]
        simpa using hj
      case c2 => intro u hu; rw [HFE.out] at hu; simp only [List.mem_cons, List.not_mem_nil, or_false] at hu; rcases hu with rfl | rfl | rfl | rfl <;> rfl
      case c3 => unfold maxLen; omega
      case c4 => omega
      case c5 => simp; omega
      intro v' w2 hown' hgrow _
      have hB1 : Below w.heap.size w w2 := (hB.alloc hB.size _).grown hgrow (by have := hB.size; simp; omega) (fun g e => by have := (hown.lt g e).1; omega)
      clear hown hB hgrow
      rw [← nL_app, ← HK4.out] at hown'
      go_wp2
      go_roundw
      case rel => exact ⟨1, by omega, by go_num, hown', hB1⟩
      case measure => simp [intOf]
    | 1, _, hown =>
      have hk4 : (fr9 e ++ fr9 c).take (4 * 2) = (fr9 e ++ fr9 c).take (4 * 1) ++ fr9 c := by kernel_rfl
      have hM : [s.size] ++ natL s ++ (fr9 e ++ fr9 c).take (4 * 2) = ([s.size] ++ natL s ++ (fr9 e ++ fr9 c).take (4 * 1)) ++ fr9 c := by rw [hk4, ← List.append_assoc]
      generalize [s.size] ++ natL s ++ (fr9 e ++ fr9 c).take (4 * 1) = L at *
      have HK4 := Lib.hid hM
      clear hk4 hM
      go_wp2_with (at_builtin; refine wpList_append_own _ rfl _ _ 63 rfl w.heap.size 5 i0 (.int .u8 0) 1 1 Tryz.underlying63 hi hz0 hz1 hz2 rfl (by decide) _ _ _ rfl (hown.alloc _) ⟨wr.heap.size, 0, none⟩ 4 4 (nL (fr9 c)) rfl rfl ?c1 ?c2 ?c3 ?c4 ?c5 ?_)
      case c1 =>
        intro j u hj
        rw [HFC.out] at hj
        rw [Addr.add_lit, Nat.zero_add, (Is.new wr _ _).cell]
        simpa using hj
      case c2 => intro u hu; rw [HFC.out] at hu; simp only [List.mem_cons, List.not_mem_nil, or_false] at hu; rcases hu with rfl | rfl | rfl | rfl <;> rfl
      case c3 => unfold maxLen; omega
      case c4 => omega
      case c5 => simp; omega
      intro v' w2 hown' hgrow _
      have hB1 : Below w.heap.size w w2 := (hB.alloc hB.size _).grown hgrow (by have := hB.size; simp; omega) (fun g e => by have := (hown.lt g e).1; omega)
      clear hown hB hgrow
      rw [← nL_app, ← HK4.out] at hown'
      go_wp2
      go_roundw
      case rel => exact ⟨2, by omega, by go_num, hown', hB1⟩
      case measure => simp [intOf]
    | 2, _, hown =>
      have hf : (fr9 e ++ fr9 c).take (4 * 2) = fr9 e ++ fr9 c := by kernel_rfl
      rw [hf, ← List.append_assoc] at hown
      have hcv := conv_own6 hown (by simp only [List.length_append, List.length_singleton, natL_len, fr9_len]) (by omega)
      rw [HA.out] at hcv
      clear hown
      go_wp2
      go_ret2
      exact ⟨rfl, hB⟩
set_option maxRecDepth 100000 in
set_option maxHeartbeats 1000000 in
theorem ask_no (s : ByteArray) (e c : Int) (w : World) (h : askE9 s e c = false) :
    Calls Tryz.prog 16 #[.string s, .int .i64 e, .int .i64 c] w fun r w' => r = .returned (.tuple #[.string ⟨#[]⟩, .int .i64 1]) ∧ Below w.heap.size w w' := by
  rw [askE9_eq] at h
  have CE := Lib.hid (fun w => counted_any e w)
  have CC := Lib.hid (fun w => counted_any c w)
  cases d1 : decide (20 < (s.size : Int)) with
  | true =>
    clear h
    go_enter Tryz.func16, Tryz.ntmps16
    go_wp2
    go_ret2
    exact ⟨rfl, Below.refl _ _⟩
  | false =>
    cases d2 : cnt9 e with
    | false =>
      rw [d2] at CE
      clear h
      go_enter Tryz.func16, Tryz.ntmps16
      go_wp2_with (go_at_call 34; refine (CE.out _).mono ?_; rintro e w' ⟨rfl, rfl⟩)
      go_ret2
      exact ⟨rfl, Below.refl _ _⟩
    | true =>
      have d3 : cnt9 c = false := by rw [d1, d2] at h; simpa using h
      rw [d2] at CE
      rw [d3] at CC
      clear h
      go_enter Tryz.func16, Tryz.ntmps16
      go_wp2_with (first
        | (go_at_call 34; refine (CE.out _).mono ?_; rintro e w' ⟨rfl, rfl⟩)
        | (go_at_call 34; refine (CC.out _).mono ?_; rintro e w' ⟨rfl, rfl⟩))
      go_ret2
      exact ⟨rfl, Below.refl _ _⟩
/-- Ask, whatever it is asked. -/
theorem oask_any (s : ByteArray) (e c : Int) (w : World) :
    Calls Tryz.prog 16 #[.string s, .int .i64 e, .int .i64 c] w fun r w' => r = .returned (.tuple #[.string (askV9 s e c).1, .int .i64 (askV9 s e c).2]) ∧ Below w.heap.size w w' := by
  cases h : askE9 s e c with
  | false =>
    have e1 : askV9 s e c = (⟨#[]⟩, 1) := by rw [askV9, h]; rfl
    rw [e1]
    exact ask_no s e c w h
  | true =>
    have e1 : askV9 s e c = (ask9 s e c, 0) := by rw [askV9, h]; rfl
    rw [e1]
    rw [askE9_eq] at h
    simp only [Bool.and_eq_true, Bool.not_eq_true', decide_eq_false_iff_not] at h
    exact ask_ok s e c w (by omega) h.2.1 h.2.2
end Go.Proofs.YtfgdcpolfekgjaaGreat
namespace Go.Proofs.YtfgdcpolfekgjaaGreat
open Go.RowKit Go.Shelf

set_option maxRecDepth 100000 in
set_option maxHeartbeats 2000000 in
theorem oright_any (o : Ora) (A : Option Addr) (c : Nat) (A' : Option Addr) (c' : Nat) (w : World) (h : InI w o.d A c A' c') :
    Calls Tryz.prog 20 #[oraV o A c A' c'] w fun e w' => e = .returned (.bool (right9 o)) ∧ Below w.heap.size w w' := by
  obtain ⟨W1, hW1⟩ : ∃ W, W = w.alloc (.cells (oraL o A c A' c') 31) := ⟨_, rfl⟩
  have i1 : Is W1 w.heap.size 31 (oraL o A c A' c') := by rw [hW1]; exact Is.new _ _ _
  have hB : Below w.heap.size w W1 := by rw [hW1]; exact (Below.refl _ _).alloc (Nat.le_refl _) _
  have k0 : W1.cell? ⟨w.heap.size, 0, none⟩ = some (.int .i64 o.m) := i1.cell 0
  have k1 : W1.cell? ⟨w.heap.size, 1, none⟩ = some (.string o.key) := i1.cell 1
  have c2 : W1.rangeAt w.heap.size 2 (ideL o.d A c A' c').toList := i1.range9 2 _ (ora_ide9 o A c A' c')
  have C := Lib.hid (iright_any o.d A c A' c' W1 (h.keep hB))
  have hR : right9 o = ((decide (o.m = 1) || decide (o.m = 2)) && (decide (o.key.size = 32) && right8 o.d)) := rfl
  generalize right8 o.d = R at *
  generalize right9 o = R9 at *
  by_cases hm : o.m = 1 ∨ o.m = 2
  · by_cases hk : o.key.size = 32
    · have e3 : ((o.key.size : Int) == 32) = true := by rw [hk]; rfl
      obtain rfl : R9 = R := by rw [hR, decide_eq_true hk]; rcases hm with e | e <;> rw [e] <;> rfl
      clear hR hk
      rcases hm with e | e
      · have e1 : (o.m == 1) = true := by rw [e]; rfl
        clear e
        go_enter Tryz.func20, Tryz.ntmps20
        go_wp2_with fail
        rw [← hW1]
        clear hW1
        go_wp2_with (refine wpList_load_midG (by kernel_rfl) 29 _ rfl w.heap.size 2 rfl _ _ c2 Tryz.underlying29 rfl infoIde ?_)
        refine C.out.mono ?_
        rintro e W2 ⟨rfl, hb⟩
        go_wp2
        go_ret
        exact ⟨rfl, hB.trans (hb.mono hB.size)⟩
      · have e1 : (o.m == 1) = false := by rw [e]; rfl
        have e2 : (o.m == 2) = true := by rw [e]; rfl
        clear e
        go_enter Tryz.func20, Tryz.ntmps20
        go_wp2_with fail
        rw [← hW1]
        clear hW1
        go_wp2_with (refine wpList_load_midG (by kernel_rfl) 29 _ rfl w.heap.size 2 rfl _ _ c2 Tryz.underlying29 rfl infoIde ?_)
        refine C.out.mono ?_
        rintro e W2 ⟨rfl, hb⟩
        go_wp2
        go_ret
        exact ⟨rfl, hB.trans (hb.mono hB.size)⟩
    · have e3 : ((o.key.size : Int) == 32) = false := by simp; omega
      obtain rfl : R9 = false := by rw [hR, decide_eq_false hk, Bool.false_and, Bool.and_false]
      clear hR hk
      rcases hm with e | e
      · have e1 : (o.m == 1) = true := by rw [e]; rfl
        clear e
        go_enter Tryz.func20, Tryz.ntmps20
        go_wp2_with fail
        rw [← hW1]
        clear hW1
        go_wp2
        go_ret
        exact ⟨rfl, hB⟩
      · have e1 : (o.m == 1) = false := by rw [e]; rfl
        have e2 : (o.m == 2) = true := by rw [e]; rfl
        clear e
        go_enter Tryz.func20, Tryz.ntmps20
        go_wp2_with fail
        rw [← hW1]
        clear hW1
        go_wp2
        go_ret
        exact ⟨rfl, hB⟩
  · have e1 : (o.m == 1) = false := by simp; omega
    have e2 : (o.m == 2) = false := by simp; omega
    obtain rfl : R9 = false := by rw [hR, decide_eq_false (by omega), decide_eq_false (by omega)]; rfl
    clear hR hm
    go_enter Tryz.func20, Tryz.ntmps20
    go_wp2_with fail
    rw [← hW1]
    clear hW1
    go_wp2
    go_ret
    exact ⟨rfl, hB⟩

/-- an oracle of nothing. -/
abbrev zer9 : Array Value := #[.int .i64 0, .string ⟨#[]⟩, .string ⟨#[]⟩, .int .i64 0, .slice none 0 0, .slice none 0 0, .bool false]
theorem InI.empty9 (W : World) (B : ByteArray) (a : Int) (k : Bool) : InI W ⟨B, a, [], [], k⟩ none 0 none 0 := by
  refine ⟨?_, ?_, fun _ => rfl, fun _ => rfl, ?_, ?_⟩
  · exact fun j u hj => by cases hj
  · exact fun j u hj => by cases hj
  · show (0 : Nat) * 32 ≤ _; omega
  · show (0 : Nat) * 48 ≤ _; omega
theorem results_ct9 {fn : Func} {p u : Tmp} {ty : TypeId} (h : fn.results = #[.cell p ty, .tmp u]) (tmps : Array Value) (P : Program) (w : World) (g : Nat) (t : TypeId) (cs : Array Value) (fr : Nat × Nat) (fs : Array Field)
    (hp : tmps.getD p undef = .pointer (some ⟨g, 0, none⟩)) (hg : w.heap[g]? = some (.cells cs t fr))
    (hu : P.underlying ty = some (.struct fs)) (hi : (P.info? ty).map (·.size) = some cs.size) :
    (results fn tmps).run P w = .ok (.tuple #[.agg cs, tmps.getD u undef]) w := by
  have e : (results fn tmps).run P w = ((asAddr (tmps.getD p undef)).run P w).andThen fun a w1 => ((loadVar ty a).run P w1).andThen fun v w2 => .ok (.tuple #[v, tmps.getD u undef]) w2 := by
    simp only [results, h]
    simp [Sem.run_bind, Result.andThen]
  rw [e, hp]
  simp [asAddr, run_loadVar_row w g t ty cs fr _ hg hu rfl hi]
set_option maxRecDepth 100000 in
set_option maxHeartbeats 4000000 in
/-- New, where what it makes is right. -/
theorem onew_ok (m : Int) (key B : ByteArray) (a : Int) (w : World) (hr : right9 ⟨m, key, ⟨B, a, [], [], false⟩⟩ = true) :
    Calls Tryz.prog 12 #[.int .i64 m, .string key, .agg #[.string B, .int .i64 a]] w fun e w' => e = .returned (.tuple #[oraV ⟨m, key, ⟨B, a, [], [], false⟩⟩ none 0 none 0, .int .i64 0]) ∧ Below w.heap.size w w' := by
  have h8 : right8 ⟨B, a, [], [], false⟩ = true := by
    simp only [right9, Bool.and_eq_true] at hr
    exact hr.2.2
  have e0 : new8 B a = (⟨B, a, [], [], false⟩, 0) := by rw [new8, if_pos ((right8_iff _).1 h8).tape]
  have C := fun W => inew_any B a W
  rw [e0] at C
  have RC := Lib.hid (fun W => oright_any ⟨m, key, ⟨B, a, [], [], false⟩⟩ none 0 none 0 W (InI.empty9 W B a false))
  rw [hr] at RC
  have ho : (⟨m, key, ⟨B, a, [], [], false⟩⟩ : Ora).d = ⟨B, a, [], [], false⟩ := rfl
  have hl : ∀ (A A' : Option Addr) (c c' : Nat), (.agg #[.int .i64 m, .string key, ideV ⟨B, a, [], [], false⟩ A c A' c'] : Value) = .agg #[.int .i64 m, .string key, ideV ⟨B, a, [], [], false⟩ A c A' c'] := fun _ _ _ _ => rfl
  clear hr h8 e0
  replace C := Lib.hid C
  obtain ⟨W1, hW1⟩ : ∃ W, W = (w.alloc (.cells #[.string B, .int .i64 a] 23)).alloc (.cells zer9 31) := ⟨_, rfl⟩
  have i1 : Is W1 w.heap.size 23 #[.string B, .int .i64 a] := by rw [hW1]; exact heap_alloc2_old w _ _
  have iR : Is W1 (w.heap.size + 1) 31 zer9 := by rw [hW1]; exact heap_alloc2_new w _ _
  have hB : Below w.heap.size w W1 := by rw [hW1]; exact ((Below.refl _ _).alloc (Nat.le_refl _) _).alloc (by simp) _
  go_enter Tryz.func12, Tryz.ntmps12
  go_wp2_with fail
  rw [← hW1]
  clear hW1
  go_wp2_with (refine wpList_load_row rfl 23 _ rfl w.heap.size rfl 23 _ (0, 0) _ i1 Tryz.underlying23 rfl infoTape9 ?_)
  refine (C.out _).mono ?_
  rintro e V2 ⟨rfl, hb⟩
  replace iR := iR.below hb iR.lt
  replace hB := hB.trans (hb.mono hB.size)
  clear hb i1
  have hDR : w.heap.size + 1 ≠ V2.heap.size := Nat.ne_of_lt iR.lt
  have hDB := hB.size
  have iD : Is (V2.alloc (.cells zer8 29)) V2.heap.size 29 zer8 := Is.new _ _ _
  replace iR := iR.alloc (.cells zer8 29)
  replace hB := hB.alloc hB.size (.cells zer8 29)
  go_upto_region 2 with (refine wpList_store_row rfl 29 _ _ rfl V2.heap.size (ideL ⟨B, a, [], [], false⟩ none 0 none 0) rfl rfl 29 _ iD infoIde rfl (ideL_one _ _ _ _ _) ?_)
  replace iR := iR.rowFar hDR (ideL ⟨B, a, [], [], false⟩ none 0 none 0)
  replace iD := iD.row (ideL ⟨B, a, [], [], false⟩ none 0 none 0)
  replace hB := belowRow hB hDB (ideL ⟨B, a, [], [], false⟩ none 0 none 0)
  generalize (V2.alloc (.cells zer8 29)).setRow V2.heap.size (ideL ⟨B, a, [], [], false⟩ none 0 none 0) = V3 at *
  generalize V2.heap.size = DB at *
  have hER : w.heap.size + 1 ≠ V3.heap.size := Nat.ne_of_lt iR.lt
  have hEB := hB.size
  have iE : Is (V3.alloc (.cells zer9 31)) V3.heap.size 31 zer9 := Is.new _ _ _
  replace iR := iR.alloc (.cells zer9 31)
  replace hB := hB.alloc hB.size (.cells zer9 31)
  go_upto_region 3 with (first
    | (refine wpList_load_row rfl 29 _ rfl DB rfl 29 _ (0, 0) _ iD Tryz.underlying29 rfl infoIde ?_)
    | (refine wpList_store_row rfl 31 _ _ rfl V3.heap.size (oraL ⟨m, key, ⟨B, a, [], [], false⟩⟩ none 0 none 0) rfl rfl 31 _ iE infoOra rfl (oraL_one9 _ _ _ _ _) ?_))
  replace iR := iR.rowFar hER (oraL ⟨m, key, ⟨B, a, [], [], false⟩⟩ none 0 none 0)
  replace iE := iE.row (oraL ⟨m, key, ⟨B, a, [], [], false⟩⟩ none 0 none 0)
  replace hB := belowRow hB hEB (oraL ⟨m, key, ⟨B, a, [], [], false⟩⟩ none 0 none 0)
  generalize (V3.alloc (.cells zer9 31)).setRow V3.heap.size (oraL ⟨m, key, ⟨B, a, [], [], false⟩⟩ none 0 none 0) = V4 at *
  generalize V3.heap.size = DE at *
  go_wp2_with (refine wpList_load_rowG (by kernel_rfl) 31 _ rfl DE rfl 31 _ iE Tryz.underlying31 rfl infoOra ?_)
  refine (RC.out _).mono ?_
  rintro e V5 ⟨rfl, hb⟩
  replace iR := iR.below hb iR.lt
  replace iE := iE.below hb iE.lt
  replace hB := hB.trans (hb.mono hB.size)
  clear hb
  go_wp2_with (first
    | (refine wpList_load_row rfl 31 _ rfl DE rfl 31 _ (0, 0) _ iE Tryz.underlying31 rfl infoOra ?_)
    | (refine wpList_store_row rfl 31 _ _ rfl (w.heap.size + 1) (oraL ⟨m, key, ⟨B, a, [], [], false⟩⟩ none 0 none 0) rfl rfl 31 _ iR infoOra rfl (oraL_one9 _ _ _ _ _) ?_))
  exact bodyPost_ret (results_ct9 Tryz.results12 _ _ _ (w.heap.size + 1) 31 _ (0, 0) _ rfl (iR.row _) Tryz.underlying31 infoOra) rfl ⟨rfl, belowRow hB (by omega) _⟩
end Go.Proofs.YtfgdcpolfekgjaaGreat
namespace Go.Proofs.YtfgdcpolfekgjaaGreat
open Go.RowKit Go.Shelf

set_option maxRecDepth 100000 in
set_option maxHeartbeats 4000000 in
theorem olabel_by (o : Ora) (A : Option Addr) (c : Nat) (A' : Option Addr) (c' : Nat) (wd : ByteArray) (ep ct : Int) (w : World) (hA : ∀ p, A = some p → p.block < w.heap.size) (hA' : ∀ p, A' = some p → p.block < w.heap.size) (s : ByteArray) (n : Ide) (er : Int) 
    (ty : TypeId) (fid : Nat) (WC : ∀ W, Calls Tryz.prog 36 #[oraV o A c A' c'] W fun r w' => r = .returned (.iface ty (oraV o A c A' c')) ∧ Below W.heap.size W w')
    (hm : ∀ W, (method 380 ty (oraV o A c A' c') "columbarium/oracle.label").run Tryz.prog W = .ok (fid, oraV o A c A' c') W) (hcf : ∀ args W, (callFunc fid args).run Tryz.prog W = .ok (.enter fid args) W)
    (IC : ∀ W, Below w.heap.size w W → Calls Tryz.prog fid #[oraV o A c A' c', .string (ask9 wd ep ct)] W fun r w' => ∃ A1 c1 A2 c2, r = .returned (.tuple #[.string s, ideV n A1 c1 A2 c2, .int .i64 er]) ∧ InI w' n A1 c1 A2 c2 ∧ Below W.heap.size W w' ∧ Own8 W w' A A1 ∧ Own8 W w' A' A2) (h : InI w o.d A c A' c') (hr : right9 o = true) (hq : askE9 wd ep ct = true) :
    Calls Tryz.prog 18 #[oraV o A c A' c', .string wd, .int .i64 ep, .int .i64 ct] w fun r w' => ∃ A1 c1 A2 c2, r = .returned (.tuple #[.string s, oraV { o with d := n } A1 c1 A2 c2, .int .i64 er]) ∧ InI w' n A1 c1 A2 c2 ∧ Below w.heap.size w w' ∧ Own8 w w' A A1 ∧ Own8 w w' A' A2 := by
  have RC := Lib.hid (fun W (hb : Below w.heap.size w W) => oright_any o A c A' c' W (h.keep hb))
  rw [hr] at RC
  replace WC := Lib.hid WC
  replace IC := Lib.hid IC
  have AC := Lib.hid (fun W => oask_any wd ep ct W)
  rw [askV9, hq] at AC
  change Hid (∀ W, Calls _ _ _ W fun r w' => r = .returned (.tuple #[.string (ask9 wd ep ct), .int .i64 0]) ∧ _) at AC
  generalize ask9 wd ep ct = i at *
  clear hq
  clear hr h
  obtain ⟨V1, hV1⟩ : ∃ W, W = (w.alloc (.cells (oraL o A c A' c') 31)).alloc (.cells zer9 31) := ⟨_, rfl⟩
  have iO : Is V1 w.heap.size 31 (oraL o A c A' c') := by rw [hV1]; exact heap_alloc2_old w _ _
  have iR : Is V1 (w.heap.size + 1) 31 zer9 := by rw [hV1]; exact heap_alloc2_new w _ _
  have hB : Below w.heap.size w V1 := by rw [hV1]; exact ((Below.refl _ _).alloc (Nat.le_refl _) _).alloc (by simp) _
  go_enter Tryz.func18, Tryz.ntmps18
  go_wp2_with fail
  rw [← hV1]
  clear hV1
  refine (AC.out _).mono ?_
  rintro e V2 ⟨rfl, hb⟩
  replace iO := iO.below hb iO.lt
  replace iR := iR.below hb iR.lt
  replace hB := hB.trans (hb.mono hB.size)
  clear hb
  go_wp2_with (refine wpList_load_rowG (by kernel_rfl) 31 _ rfl w.heap.size rfl 31 _ iO Tryz.underlying31 rfl infoOra ?_)
  refine (RC.out _ hB).mono ?_
  rintro e VR ⟨rfl, hb⟩
  replace iO := iO.below hb iO.lt
  replace iR := iR.below hb iR.lt
  replace hB := hB.trans (hb.mono hB.size)
  clear hb
  go_wp2_with (refine wpList_load_row rfl 31 _ rfl w.heap.size rfl 31 _ (0, 0) _ iO Tryz.underlying31 rfl infoOra ?_)
  refine (WC.out _).mono ?_
  rintro e V4 ⟨rfl, hb⟩
  replace iO := iO.below hb iO.lt
  replace iR := iR.below hb iR.lt
  replace hB := hB.trans (hb.mono hB.size)
  clear hb
  go_wp2_with fail
  have h4 := hB.size
  have hlR := iR.lt
  refine (IC.out _ hB).mono ?_
  rintro e V5 ⟨A1, c1, A2, c2, rfl, nI, hb, o1, o2⟩
  replace iO := iO.below hb iO.lt
  replace iR := iR.below hb iR.lt
  replace hB := hB.trans (hb.mono hB.size)
  have l1 := o1.behind9 (fun p hp => Nat.lt_of_lt_of_le (hA p hp) h4) hb.size
  have l2 := o2.behind9 (fun p hp => Nat.lt_of_lt_of_le (hA' p hp) h4) hb.size
  have s1 := o1.apart9 hA (Nat.le_succ _) hlR
  have s2 := o2.apart9 hA' (Nat.le_succ _) hlR
  have z1 := o1.apart9 hA (Nat.le_refl w.heap.size) (by omega)
  have z2 := o2.apart9 hA' (Nat.le_refl w.heap.size) (by omega)
  have hDR : V5.heap.size ≠ w.heap.size + 1 := Nat.ne_of_gt iR.lt
  have hDK : V5.heap.size ≠ w.heap.size := Nat.ne_of_gt iO.lt
  have hDB := hB.size
  clear hb
  have iD : Is (V5.alloc (.cells zer8 29)) V5.heap.size 29 zer8 := Is.new _ _ _
  replace iO := iO.alloc (.cells zer8 29)
  replace iR := iR.alloc (.cells zer8 29)
  replace hB := hB.alloc hB.size (.cells zer8 29)
  replace nI := nI.keep ((Below.refl _ _).alloc (Nat.le_refl _) (.cells zer8 29))
  go_upto_region 5 with (refine wpList_store_row rfl 29 _ _ rfl V5.heap.size (ideL n A1 c1 A2 c2) rfl rfl 29 _ iD infoIde rfl (ideL_one _ _ _ _ _) ?_)
  replace iO := iO.rowFar (Ne.symm hDK) (ideL n A1 c1 A2 c2)
  replace iR := iR.rowFar (Ne.symm hDR) (ideL n A1 c1 A2 c2)
  replace iD := iD.row (ideL n A1 c1 A2 c2)
  replace hB := belowRow hB hDB (ideL n A1 c1 A2 c2)
  replace nI := nI.apart (grownRowG _ _ (ideL n A1 c1 A2 c2)) l1 l2
  have hz : V5.heap.size ≤ ((V5.alloc (.cells zer8 29)).setRow V5.heap.size (ideL n A1 c1 A2 c2)).heap.size := by simp
  generalize (V5.alloc (.cells zer8 29)).setRow V5.heap.size (ideL n A1 c1 A2 c2) = V6 at *
  have th := there9 iO 2 5 (by show 2 + 5 ≤ 7; omega)
  go_upto_region 6 with (first
    | (refine wpList_load_row rfl 29 _ rfl V5.heap.size rfl 29 _ (0, 0) _ iD Tryz.underlying29 rfl infoIde ?_)
    | (refine wpList_store_mid rfl 29 _ _ rfl w.heap.size 2 (ideL n A1 c1 A2 c2) rfl rfl th infoIde (ideL_one _ _ _ _ _) ?_))
  have e3 := iO.setCells (ideL n A1 c1 A2 c2).toList 2
  rw [set_ide9] at e3
  have iR3 := iR.farCells (by omega : w.heap.size + 1 ≠ w.heap.size) (ideL n A1 c1 A2 c2).toList 2
  have hB3 := belowCells (Nat.le_refl w.heap.size) (ideL n A1 c1 A2 c2).toList 2 hB
  have nI3 := nI.apart (grown_cells9 w.heap.size (ideL n A1 c1 A2 c2).toList 2 V6) z1 z2
  have hz3 : V5.heap.size ≤ (V6.setCells w.heap.size 2 (ideL n A1 c1 A2 c2).toList).heap.size := Nat.le_trans hz (grown_cells9 w.heap.size (ideL n A1 c1 A2 c2).toList 2 V6).size
  clear th iD iR hB nI iO hz
  generalize V6.setCells w.heap.size 2 (ideL n A1 c1 A2 c2).toList = V at *
  have iD := e3
  have iR := iR3
  have hB := hB3
  have nI := nI3
  replace hDR : w.heap.size ≠ w.heap.size + 1 := by omega
  clear e3 iR3 hB3 nI3
  have iDd : Is V.drew w.heap.size 31 (oraL { o with d := n } A1 c1 A2 c2) := iD
  have iRd : Is V.drew (w.heap.size + 1) 31 zer9 := iR
  have hBd : Below w.heap.size w V.drew := belowN hB 1
  have nId := nI.keep (W' := V.drew) (belowN (Below.refl _ _) 1)
  refine wp_region_held_drew (S := fun W => Is W w.heap.size 31 (oraL { o with d := n } A1 c1 A2 c2)) (by kernel_rfl) iDd (fun hS => ?_)
  change wpAnyH _ _ (opsOf Tryz.f18 6) _ _ 6 (Array.replicate 6 false) _ _
  clear hS iD iR hB nI
  refine wpAnyH_pure (i := 0) (v := .string s) (at_nth rfl) (by kernel_rfl) (by kernel_rfl) (by kernel_rfl) (fun _ _ _ h => h) (by kernel_rfl) (fun w hSw => by kernel_rfl) iDd ?_
  simp only [Act.put, List.setIfInBounds_toArray, List.set_cons_succ, List.set_cons_zero]
  refine wpAnyH_pure (i := 1) (v := .agg (oraL { o with d := n } A1 c1 A2 c2)) (at_nth rfl) (by kernel_rfl) (by kernel_rfl) (by kernel_rfl) (fun _ _ _ h => h) (by kernel_rfl) (fun w hSw => by exact exec_load rfl rfl (run_loadVar_row _ _ 31 31 _ (0, 0) _ hSw Tryz.underlying31 rfl infoOra)) iDd ?_
  simp only [Act.put, List.setIfInBounds_toArray, List.set_cons_succ, List.set_cons_zero]
  refine wpAnyH_pure (i := 2) (v := .int .i64 er) (at_nth rfl) (by kernel_rfl) (by kernel_rfl) (by kernel_rfl) (fun _ _ _ h => h) (by kernel_rfl) (fun w hSw => by kernel_rfl) iDd ?_
  simp only [Act.put, List.setIfInBounds_toArray, List.set_cons_succ, List.set_cons_zero]
  refine wpAnyH_pure (i := 3) (v := .string s) (at_nth rfl) (by kernel_rfl) (by kernel_rfl) (by kernel_rfl) (fun _ _ _ h => h) (by kernel_rfl) (fun w hSw => by kernel_rfl) iDd ?_
  simp only [Act.put, List.setIfInBounds_toArray, List.set_cons_succ, List.set_cons_zero]
  have iDz : Is (V.drew.setRow (w.heap.size + 1) (oraL { o with d := n } A1 c1 A2 c2)) w.heap.size 31 (oraL { o with d := n } A1 c1 A2 c2) := iDd.rowFar hDR _
  refine wpAnyH_storerow (i := 4) (g := (w.heap.size + 1)) (cs := (oraL { o with d := n } A1 c1 A2 c2)) (t := 31) (old := zer9) (by kernel_rfl) (at_nth rfl) (by kernel_rfl) rfl (by kernel_rfl) (by kernel_rfl) iRd infoOra rfl (oraL_one9 _ _ _ _ _) iDz ?_
  simp only [Act.put]
  refine wpAnyH_pure (i := 5) (v := .int .i64 er) (at_nth rfl) (by kernel_rfl) (by kernel_rfl) (by kernel_rfl) (fun _ _ _ h => h) (by kernel_rfl) (fun w hSw => by kernel_rfl) iDz ?_
  simp only [Act.put, List.setIfInBounds_toArray, List.set_cons_succ, List.set_cons_zero]
  refine wpAnyH_done (by kernel_rfl) ?_ _
  go_wp2
  exact bodyPost_ret (results_tct Tryz.results18 _ _ _ (w.heap.size + 1) 31 _ (0, 0) _ rfl (iRd.row _) Tryz.underlying31 infoOra) rfl ⟨A1, c1, A2, c2, rfl, nId.apart (grownRowG _ _ _) s1 s2, belowRow hBd (by simp) _, o1.wide9 h4 (by simpa using hz3), o2.wide9 h4 (by simpa using hz3)⟩

set_option maxRecDepth 100000 in
set_option maxHeartbeats 4000000 in
theorem ocell_by (o : Ora) (A : Option Addr) (c : Nat) (A' : Option Addr) (c' : Nat) (l t : ByteArray) (w : World) (hA : ∀ p, A = some p → p.block < w.heap.size) (hA' : ∀ p, A' = some p → p.block < w.heap.size) (s : ByteArray) (n : Ide) (er : Int) 
    (ty : TypeId) (fid : Nat) (WC : ∀ W, Calls Tryz.prog 36 #[oraV o A c A' c'] W fun r w' => r = .returned (.iface ty (oraV o A c A' c')) ∧ Below W.heap.size W w')
    (hm : ∀ W, (method 380 ty (oraV o A c A' c') "columbarium/oracle.cell").run Tryz.prog W = .ok (fid, oraV o A c A' c') W) (hcf : ∀ args W, (callFunc fid args).run Tryz.prog W = .ok (.enter fid args) W)
    (IC : ∀ W, Below w.heap.size w W → Calls Tryz.prog fid #[oraV o A c A' c', .string l, .string t] W fun r w' => ∃ A1 c1 A2 c2, r = .returned (.tuple #[.string s, ideV n A1 c1 A2 c2, .int .i64 er]) ∧ InI w' n A1 c1 A2 c2 ∧ Below W.heap.size W w' ∧ Own8 W w' A A1 ∧ Own8 W w' A' A2) (h : InI w o.d A c A' c') (hr : right9 o = true) (hl : l.size = 16) (ht : t.size = 24) :
    Calls Tryz.prog 23 #[oraV o A c A' c', .string l, .string t] w fun r w' => ∃ A1 c1 A2 c2, r = .returned (.tuple #[.string s, oraV { o with d := n } A1 c1 A2 c2, .int .i64 er]) ∧ InI w' n A1 c1 A2 c2 ∧ Below w.heap.size w w' ∧ Own8 w w' A A1 ∧ Own8 w w' A' A2 := by
  have RC := Lib.hid (fun W (hb : Below w.heap.size w W) => oright_any o A c A' c' W (h.keep hb))
  rw [hr] at RC
  replace WC := Lib.hid WC
  replace IC := Lib.hid IC
  have hl2 : (l.size : Int) = 16 := by omega
  have ht2 : (t.size : Int) = 24 := by omega
  clear hl ht
  clear hr h
  obtain ⟨V1, hV1⟩ : ∃ W, W = (w.alloc (.cells (oraL o A c A' c') 31)).alloc (.cells zer9 31) := ⟨_, rfl⟩
  have iO : Is V1 w.heap.size 31 (oraL o A c A' c') := by rw [hV1]; exact heap_alloc2_old w _ _
  have iR : Is V1 (w.heap.size + 1) 31 zer9 := by rw [hV1]; exact heap_alloc2_new w _ _
  have hB : Below w.heap.size w V1 := by rw [hV1]; exact ((Below.refl _ _).alloc (Nat.le_refl _) _).alloc (by simp) _
  go_enter Tryz.func23, Tryz.ntmps23
  go_wp2_with fail
  rw [← hV1]
  clear hV1
  go_wp2_with (refine wpList_load_rowG (by kernel_rfl) 31 _ rfl w.heap.size rfl 31 _ iO Tryz.underlying31 rfl infoOra ?_)
  refine (RC.out _ hB).mono ?_
  rintro e VR ⟨rfl, hb⟩
  replace iO := iO.below hb iO.lt
  replace iR := iR.below hb iR.lt
  replace hB := hB.trans (hb.mono hB.size)
  clear hb
  go_wp2_with (refine wpList_load_row rfl 31 _ rfl w.heap.size rfl 31 _ (0, 0) _ iO Tryz.underlying31 rfl infoOra ?_)
  refine (WC.out _).mono ?_
  rintro e V4 ⟨rfl, hb⟩
  replace iO := iO.below hb iO.lt
  replace iR := iR.below hb iR.lt
  replace hB := hB.trans (hb.mono hB.size)
  clear hb
  go_wp2_with fail
  have h4 := hB.size
  have hlR := iR.lt
  refine (IC.out _ hB).mono ?_
  rintro e V5 ⟨A1, c1, A2, c2, rfl, nI, hb, o1, o2⟩
  replace iO := iO.below hb iO.lt
  replace iR := iR.below hb iR.lt
  replace hB := hB.trans (hb.mono hB.size)
  have l1 := o1.behind9 (fun p hp => Nat.lt_of_lt_of_le (hA p hp) h4) hb.size
  have l2 := o2.behind9 (fun p hp => Nat.lt_of_lt_of_le (hA' p hp) h4) hb.size
  have s1 := o1.apart9 hA (Nat.le_succ _) hlR
  have s2 := o2.apart9 hA' (Nat.le_succ _) hlR
  have z1 := o1.apart9 hA (Nat.le_refl w.heap.size) (by omega)
  have z2 := o2.apart9 hA' (Nat.le_refl w.heap.size) (by omega)
  have hDR : V5.heap.size ≠ w.heap.size + 1 := Nat.ne_of_gt iR.lt
  have hDK : V5.heap.size ≠ w.heap.size := Nat.ne_of_gt iO.lt
  have hDB := hB.size
  clear hb
  have iD : Is (V5.alloc (.cells zer8 29)) V5.heap.size 29 zer8 := Is.new _ _ _
  replace iO := iO.alloc (.cells zer8 29)
  replace iR := iR.alloc (.cells zer8 29)
  replace hB := hB.alloc hB.size (.cells zer8 29)
  replace nI := nI.keep ((Below.refl _ _).alloc (Nat.le_refl _) (.cells zer8 29))
  go_upto_region 4 with (refine wpList_store_row rfl 29 _ _ rfl V5.heap.size (ideL n A1 c1 A2 c2) rfl rfl 29 _ iD infoIde rfl (ideL_one _ _ _ _ _) ?_)
  replace iO := iO.rowFar (Ne.symm hDK) (ideL n A1 c1 A2 c2)
  replace iR := iR.rowFar (Ne.symm hDR) (ideL n A1 c1 A2 c2)
  replace iD := iD.row (ideL n A1 c1 A2 c2)
  replace hB := belowRow hB hDB (ideL n A1 c1 A2 c2)
  replace nI := nI.apart (grownRowG _ _ (ideL n A1 c1 A2 c2)) l1 l2
  have hz : V5.heap.size ≤ ((V5.alloc (.cells zer8 29)).setRow V5.heap.size (ideL n A1 c1 A2 c2)).heap.size := by simp
  generalize (V5.alloc (.cells zer8 29)).setRow V5.heap.size (ideL n A1 c1 A2 c2) = V6 at *
  have th := there9 iO 2 5 (by show 2 + 5 ≤ 7; omega)
  go_upto_region 5 with (first
    | (refine wpList_load_row rfl 29 _ rfl V5.heap.size rfl 29 _ (0, 0) _ iD Tryz.underlying29 rfl infoIde ?_)
    | (refine wpList_store_mid rfl 29 _ _ rfl w.heap.size 2 (ideL n A1 c1 A2 c2) rfl rfl th infoIde (ideL_one _ _ _ _ _) ?_))
  have e3 := iO.setCells (ideL n A1 c1 A2 c2).toList 2
  rw [set_ide9] at e3
  have iR3 := iR.farCells (by omega : w.heap.size + 1 ≠ w.heap.size) (ideL n A1 c1 A2 c2).toList 2
  have hB3 := belowCells (Nat.le_refl w.heap.size) (ideL n A1 c1 A2 c2).toList 2 hB
  have nI3 := nI.apart (grown_cells9 w.heap.size (ideL n A1 c1 A2 c2).toList 2 V6) z1 z2
  have hz3 : V5.heap.size ≤ (V6.setCells w.heap.size 2 (ideL n A1 c1 A2 c2).toList).heap.size := Nat.le_trans hz (grown_cells9 w.heap.size (ideL n A1 c1 A2 c2).toList 2 V6).size
  clear th iD iR hB nI iO hz
  generalize V6.setCells w.heap.size 2 (ideL n A1 c1 A2 c2).toList = V at *
  have iD := e3
  have iR := iR3
  have hB := hB3
  have nI := nI3
  replace hDR : w.heap.size ≠ w.heap.size + 1 := by omega
  clear e3 iR3 hB3 nI3
  have iDd : Is V.drew w.heap.size 31 (oraL { o with d := n } A1 c1 A2 c2) := iD
  have iRd : Is V.drew (w.heap.size + 1) 31 zer9 := iR
  have hBd : Below w.heap.size w V.drew := belowN hB 1
  have nId := nI.keep (W' := V.drew) (belowN (Below.refl _ _) 1)
  refine wp_region_held_drew (S := fun W => Is W w.heap.size 31 (oraL { o with d := n } A1 c1 A2 c2)) (by kernel_rfl) iDd (fun hS => ?_)
  change wpAnyH _ _ (opsOf Tryz.f23 5) _ _ 6 (Array.replicate 6 false) _ _
  clear hS iD iR hB nI
  refine wpAnyH_pure (i := 0) (v := .string s) (at_nth rfl) (by kernel_rfl) (by kernel_rfl) (by kernel_rfl) (fun _ _ _ h => h) (by kernel_rfl) (fun w hSw => by kernel_rfl) iDd ?_
  simp only [Act.put, List.setIfInBounds_toArray, List.set_cons_succ, List.set_cons_zero]
  refine wpAnyH_pure (i := 1) (v := .agg (oraL { o with d := n } A1 c1 A2 c2)) (at_nth rfl) (by kernel_rfl) (by kernel_rfl) (by kernel_rfl) (fun _ _ _ h => h) (by kernel_rfl) (fun w hSw => by exact exec_load rfl rfl (run_loadVar_row _ _ 31 31 _ (0, 0) _ hSw Tryz.underlying31 rfl infoOra)) iDd ?_
  simp only [Act.put, List.setIfInBounds_toArray, List.set_cons_succ, List.set_cons_zero]
  refine wpAnyH_pure (i := 2) (v := .int .i64 er) (at_nth rfl) (by kernel_rfl) (by kernel_rfl) (by kernel_rfl) (fun _ _ _ h => h) (by kernel_rfl) (fun w hSw => by kernel_rfl) iDd ?_
  simp only [Act.put, List.setIfInBounds_toArray, List.set_cons_succ, List.set_cons_zero]
  refine wpAnyH_pure (i := 3) (v := .string s) (at_nth rfl) (by kernel_rfl) (by kernel_rfl) (by kernel_rfl) (fun _ _ _ h => h) (by kernel_rfl) (fun w hSw => by kernel_rfl) iDd ?_
  simp only [Act.put, List.setIfInBounds_toArray, List.set_cons_succ, List.set_cons_zero]
  have iDz : Is (V.drew.setRow (w.heap.size + 1) (oraL { o with d := n } A1 c1 A2 c2)) w.heap.size 31 (oraL { o with d := n } A1 c1 A2 c2) := iDd.rowFar hDR _
  refine wpAnyH_storerow (i := 4) (g := (w.heap.size + 1)) (cs := (oraL { o with d := n } A1 c1 A2 c2)) (t := 31) (old := zer9) (by kernel_rfl) (at_nth rfl) (by kernel_rfl) rfl (by kernel_rfl) (by kernel_rfl) iRd infoOra rfl (oraL_one9 _ _ _ _ _) iDz ?_
  simp only [Act.put]
  refine wpAnyH_pure (i := 5) (v := .int .i64 er) (at_nth rfl) (by kernel_rfl) (by kernel_rfl) (by kernel_rfl) (fun _ _ _ h => h) (by kernel_rfl) (fun w hSw => by kernel_rfl) iDz ?_
  simp only [Act.put, List.setIfInBounds_toArray, List.set_cons_succ, List.set_cons_zero]
  refine wpAnyH_done (by kernel_rfl) ?_ _
  go_wp2
  exact bodyPost_ret (results_tct Tryz.results23 _ _ _ (w.heap.size + 1) 31 _ (0, 0) _ rfl (iRd.row _) Tryz.underlying31 infoOra) rfl ⟨A1, c1, A2, c2, rfl, nId.apart (grownRowG _ _ _) s1 s2, belowRow hBd (by simp) _, o1.wide9 h4 (by simpa using hz3), o2.wide9 h4 (by simpa using hz3)⟩

theorem cf9_byKeylabel : ∀ args W, (callFunc 120 args).run Tryz.prog W = .ok (.enter 120 args) W := fun args W => by go_simp
theorem mt9_byKeylabel (o : Ora) (A : Option Addr) (c : Nat) (A' : Option Addr) (c' : Nat) : ∀ W, (method 380 93 (oraV o A c A' c') "columbarium/oracle.label").run Tryz.prog W = .ok (120, oraV o A c A' c') W := fun _ => by kernel_rfl
theorem cf9_byKeycell : ∀ args W, (callFunc 118 args).run Tryz.prog W = .ok (.enter 118 args) W := fun args W => by go_simp
theorem mt9_byKeycell (o : Ora) (A : Option Addr) (c : Nat) (A' : Option Addr) (c' : Nat) : ∀ W, (method 380 93 (oraV o A c A' c') "columbarium/oracle.cell").run Tryz.prog W = .ok (118, oraV o A c A' c') W := fun _ => by kernel_rfl
theorem cf9_byKeyopen : ∀ args W, (callFunc 121 args).run Tryz.prog W = .ok (.enter 121 args) W := fun args W => by go_simp
theorem mt9_byKeyopen (o : Ora) (A : Option Addr) (c : Nat) (A' : Option Addr) (c' : Nat) : ∀ W, (method 380 93 (oraV o A c A' c') "columbarium/oracle.open").run Tryz.prog W = .ok (121, oraV o A c A' c') W := fun _ => by kernel_rfl
theorem cf9_byTapelabel : ∀ args W, (callFunc 238 args).run Tryz.prog W = .ok (.enter 238 args) W := fun args W => by go_simp
theorem mt9_byTapelabel (o : Ora) (A : Option Addr) (c : Nat) (A' : Option Addr) (c' : Nat) : ∀ W, (method 380 94 (oraV o A c A' c') "columbarium/oracle.label").run Tryz.prog W = .ok (238, oraV o A c A' c') W := fun _ => by kernel_rfl
theorem cf9_byTapecell : ∀ args W, (callFunc 237 args).run Tryz.prog W = .ok (.enter 237 args) W := fun args W => by go_simp
theorem mt9_byTapecell (o : Ora) (A : Option Addr) (c : Nat) (A' : Option Addr) (c' : Nat) : ∀ W, (method 380 94 (oraV o A c A' c') "columbarium/oracle.cell").run Tryz.prog W = .ok (237, oraV o A c A' c') W := fun _ => by kernel_rfl
theorem cf9_byTapeopen : ∀ args W, (callFunc 239 args).run Tryz.prog W = .ok (.enter 239 args) W := fun args W => by go_simp
theorem mt9_byTapeopen (o : Ora) (A : Option Addr) (c : Nat) (A' : Option Addr) (c' : Nat) : ∀ W, (method 380 94 (oraV o A c A' c') "columbarium/oracle.open").run Tryz.prog W = .ok (239, oraV o A c A' c') W := fun _ => by kernel_rfl
section
variable [Tabs]
set_option maxRecDepth 100000 in
theorem olabel_ok (o : Ora) (A : Option Addr) (c : Nat) (A' : Option Addr) (c' : Nat) (wd : ByteArray) (ep ct : Int) (w : World) (hA : ∀ p, A = some p → p.block < w.heap.size) (hA' : ∀ p, A' = some p → p.block < w.heap.size) (hT : Tab w) (h : InI w o.d A c A' c') (hr : right9 o = true) (hq : askE9 wd ep ct = true) :
    Calls Tryz.prog 18 #[oraV o A c A' c', .string wd, .int .i64 ep, .int .i64 ct] w fun r w' => ∃ A1 c1 A2 c2, r = .returned (.tuple #[.string (labV9 T9 o wd ep ct).1, oraV (labV9 T9 o wd ep ct).2.1 A1 c1 A2 c2, .int .i64 (labV9 T9 o wd ep ct).2.2]) ∧ InI w' (labV9 T9 o wd ep ct).2.1.d A1 c1 A2 c2 ∧ Below w.heap.size w w' ∧ Own8 w w' A A1 ∧ Own8 w w' A' A2 := by
  have hk : o.key.size = 32 := ((right9_iff o).1 hr).key
  have hi : (ask9 wd ep ct).size ≤ 100 := by
    have := hq
    simp only [askE9, Bool.and_eq_true, decide_eq_true_eq] at this
    rw [ask9_size]; omega
  cases hm : real9 o with
  | true =>
    have WC : ∀ W, Calls Tryz.prog 36 #[oraV o A c A' c'] W fun r w' => r = .returned (.iface 93 (oraV o A c A' c')) ∧ Below W.heap.size W w' := fun W => by have := wayOf_any o A c A' c' W; rw [hm] at this; exact this
    have e0 : (labV9 T9 o wd ep ct) = ((labS9 o.d (T9 o.key (ask9 wd ep ct)) (ask9 wd ep ct)).1, { o with d := (labS9 o.d (T9 o.key (ask9 wd ep ct)) (ask9 wd ep ct)).2.1 }, (labS9 o.d (T9 o.key (ask9 wd ep ct)) (ask9 wd ep ct)).2.2) := by simp only [labV9, if_pos (show (right9 o && askE9 wd ep ct) = true from by rw [hr, hq]; rfl), hm, lab9M, if_true]
    rw [e0]
    have IC := fun W (hb : Below w.heap.size w W) => (bkLabel_any o A c A' c' (ask9 wd ep ct) W (fun p hp => Nat.lt_of_lt_of_le (hA p hp) hb.size) (fun p hp => Nat.lt_of_lt_of_le (hA' p hp) hb.size) (hT.below hb hT.two) (h.keep hb) hk hi)
    generalize (labS9 o.d (T9 o.key (ask9 wd ep ct)) (ask9 wd ep ct)) = x at *
    exact olabel_by o A c A' c' wd ep ct w hA hA' x.1 x.2.1 x.2.2 93 _ WC (mt9_byKeylabel o A c A' c') cf9_byKeylabel IC h hr hq
  | false =>
    have WC : ∀ W, Calls Tryz.prog 36 #[oraV o A c A' c'] W fun r w' => r = .returned (.iface 94 (oraV o A c A' c')) ∧ Below W.heap.size W w' := fun W => by have := wayOf_any o A c A' c' W; rw [hm] at this; exact this
    have e0 : (labV9 T9 o wd ep ct) = ((lab8 o.d (ask9 wd ep ct)).1, { o with d := (lab8 o.d (ask9 wd ep ct)).2.1 }, (lab8 o.d (ask9 wd ep ct)).2.2) := by simp only [labV9, if_pos (show (right9 o && askE9 wd ep ct) = true from by rw [hr, hq]; rfl), hm, lab9M, Bool.false_eq_true, if_false]
    rw [e0]
    have IC := fun W (hb : Below w.heap.size w W) => (btLabel_any o A c A' c' (ask9 wd ep ct) W (fun p hp => Nat.lt_of_lt_of_le (hA p hp) hb.size) (fun p hp => Nat.lt_of_lt_of_le (hA' p hp) hb.size) (h.keep hb))
    generalize (lab8 o.d (ask9 wd ep ct)) = x at *
    exact olabel_by o A c A' c' wd ep ct w hA hA' x.1 x.2.1 x.2.2 94 _ WC (mt9_byTapelabel o A c A' c') cf9_byTapelabel IC h hr hq
end
section
variable [Tabs]
set_option maxRecDepth 100000 in
theorem ocell_ok (o : Ora) (A : Option Addr) (c : Nat) (A' : Option Addr) (c' : Nat) (l t : ByteArray) (w : World) (hA : ∀ p, A = some p → p.block < w.heap.size) (hA' : ∀ p, A' = some p → p.block < w.heap.size) (hT : Tab w) (h : InI w o.d A c A' c') (hr : right9 o = true) (hl : l.size = 16) (ht : t.size = 24) :
    Calls Tryz.prog 23 #[oraV o A c A' c', .string l, .string t] w fun r w' => ∃ A1 c1 A2 c2, r = .returned (.tuple #[.string (celV9 C9 o l t).1, oraV (celV9 C9 o l t).2.1 A1 c1 A2 c2, .int .i64 (celV9 C9 o l t).2.2]) ∧ InI w' (celV9 C9 o l t).2.1.d A1 c1 A2 c2 ∧ Below w.heap.size w w' ∧ Own8 w w' A A1 ∧ Own8 w w' A' A2 := by
  have hk : o.key.size = 32 := ((right9_iff o).1 hr).key

  cases hm : real9 o with
  | true =>
    have WC : ∀ W, Calls Tryz.prog 36 #[oraV o A c A' c'] W fun r w' => r = .returned (.iface 93 (oraV o A c A' c')) ∧ Below W.heap.size W w' := fun W => by have := wayOf_any o A c A' c' W; rw [hm] at this; exact this
    have e0 : (celV9 C9 o l t) = ((seaS9 o.d (C9 o.key l t) l t).1, { o with d := (seaS9 o.d (C9 o.key l t) l t).2.1 }, (seaS9 o.d (C9 o.key l t) l t).2.2) := by simp only [celV9, if_pos (show (right9 o && (decide (l.size = 16) && decide (t.size = 24))) = true from by rw [hr, hl, ht]; rfl), hm, cel9M, if_true]
    rw [e0]
    have IC := fun W (hb : Below w.heap.size w W) => (bkCell_any o A c A' c' l t W (fun p hp => Nat.lt_of_lt_of_le (hA p hp) hb.size) (fun p hp => Nat.lt_of_lt_of_le (hA' p hp) hb.size) (hT.below hb hT.two) (h.keep hb) hk hl ht)
    generalize (seaS9 o.d (C9 o.key l t) l t) = x at *
    exact ocell_by o A c A' c' l t w hA hA' x.1 x.2.1 x.2.2 93 _ WC (mt9_byKeycell o A c A' c') cf9_byKeycell IC h hr hl ht
  | false =>
    have WC : ∀ W, Calls Tryz.prog 36 #[oraV o A c A' c'] W fun r w' => r = .returned (.iface 94 (oraV o A c A' c')) ∧ Below W.heap.size W w' := fun W => by have := wayOf_any o A c A' c' W; rw [hm] at this; exact this
    have e0 : (celV9 C9 o l t) = ((sea8 o.d l t).1, { o with d := (sea8 o.d l t).2.1 }, (sea8 o.d l t).2.2) := by simp only [celV9, if_pos (show (right9 o && (decide (l.size = 16) && decide (t.size = 24))) = true from by rw [hr, hl, ht]; rfl), hm, cel9M, Bool.false_eq_true, if_false]
    rw [e0]
    have IC := fun W (hb : Below w.heap.size w W) => (btCell_any o A c A' c' l t W (fun p hp => Nat.lt_of_lt_of_le (hA p hp) hb.size) (fun p hp => Nat.lt_of_lt_of_le (hA' p hp) hb.size) (h.keep hb))
    generalize (sea8 o.d l t) = x at *
    exact ocell_by o A c A' c' l t w hA hA' x.1 x.2.1 x.2.2 94 _ WC (mt9_byTapecell o A c A' c') cf9_byTapecell IC h hr hl ht
end
set_option maxRecDepth 100000 in
set_option maxHeartbeats 4000000 in
theorem oopen_by (o : Ora) (A : Option Addr) (c : Nat) (A' : Option Addr) (c' : Nat) (l s : ByteArray) (w : World) (a : ByteArray) (er : Int)
    (ty : TypeId) (fid : Nat) (WC : ∀ W, Calls Tryz.prog 36 #[oraV o A c A' c'] W fun r w' => r = .returned (.iface ty (oraV o A c A' c')) ∧ Below W.heap.size W w')
    (hm : ∀ W, (method 380 ty (oraV o A c A' c') "columbarium/oracle.open").run Tryz.prog W = .ok (fid, oraV o A c A' c') W)
    (IC : ∀ W, Below w.heap.size w W → Calls Tryz.prog fid #[oraV o A c A' c', .string l, .string s] W fun r w' => r = .returned (.tuple #[.string a, .int .i64 er]) ∧ Below W.heap.size W w') (hcf : ∀ args W, (callFunc fid args).run Tryz.prog W = .ok (.enter fid args) W) (h : InI w o.d A c A' c') (hr : right9 o = true) (hl : l.size = 16) (hs : s.size = 40) :
    Calls Tryz.prog 25 #[oraV o A c A' c', .string l, .string s] w fun r w' => r = .returned (.tuple #[.string a, .int .i64 er]) ∧ Below w.heap.size w w' := by
  have RC := Lib.hid (fun W (hb : Below w.heap.size w W) => oright_any o A c A' c' W (h.keep hb))
  rw [hr] at RC
  replace WC := Lib.hid WC
  replace IC := Lib.hid IC
  have hl2 : (l.size : Int) = 16 := by omega
  have hs2 : (s.size : Int) = 40 := by omega
  clear hr h hl hs
  obtain ⟨V1, hV1⟩ : ∃ W, W = w.alloc (.cells (oraL o A c A' c') 31) := ⟨_, rfl⟩
  have iO : Is V1 w.heap.size 31 (oraL o A c A' c') := by rw [hV1]; exact Is.new _ _ _
  have hB : Below w.heap.size w V1 := by rw [hV1]; exact (Below.refl _ _).alloc (Nat.le_refl _) _
  go_enter Tryz.func25, Tryz.ntmps25
  go_wp2_with fail
  rw [← hV1]
  clear hV1
  go_wp2_with (refine wpList_load_row rfl 31 _ rfl w.heap.size rfl 31 _ (0, 0) _ iO Tryz.underlying31 rfl infoOra ?_)
  refine (RC.out _ hB).mono ?_
  rintro e V2 ⟨rfl, hb⟩
  replace iO := iO.below hb iO.lt
  replace hB := hB.trans (hb.mono hB.size)
  clear hb
  go_wp2_with (refine wpList_load_row rfl 31 _ rfl w.heap.size rfl 31 _ (0, 0) _ iO Tryz.underlying31 rfl infoOra ?_)
  refine (WC.out _).mono ?_
  rintro e V3 ⟨rfl, hb⟩
  replace hB := hB.trans (hb.mono hB.size)
  clear hb
  go_wp2_with fail
  refine (IC.out _ hB).mono ?_
  rintro e V4 ⟨rfl, hb⟩
  replace hB := hB.trans (hb.mono hB.size)
  go_wp2
  go_ret2
  exact ⟨rfl, hB⟩
set_option maxRecDepth 100000 in
set_option maxHeartbeats 4000000 in
theorem oopen_short (o : Ora) (A : Option Addr) (c : Nat) (A' : Option Addr) (c' : Nat) (l s : ByteArray) (w : World) (h : InI w o.d A c A' c') (hr : right9 o = true) (hl : l.size = 16) (hs : s.size ≠ 40) :
    Calls Tryz.prog 25 #[oraV o A c A' c', .string l, .string s] w fun r w' => r = .returned (.tuple #[.string ⟨#[]⟩, .int .i64 11]) ∧ Below w.heap.size w w' := by
  have RC := Lib.hid (fun W (hb : Below w.heap.size w W) => oright_any o A c A' c' W (h.keep hb))
  rw [hr] at RC
  have hl2 : (l.size : Int) = 16 := by omega
  have hs2 : ¬ (s.size : Int) = 40 := by omega
  clear hr h hl hs
  obtain ⟨V1, hV1⟩ : ∃ W, W = w.alloc (.cells (oraL o A c A' c') 31) := ⟨_, rfl⟩
  have iO : Is V1 w.heap.size 31 (oraL o A c A' c') := by rw [hV1]; exact Is.new _ _ _
  have hB : Below w.heap.size w V1 := by rw [hV1]; exact (Below.refl _ _).alloc (Nat.le_refl _) _
  go_enter Tryz.func25, Tryz.ntmps25
  go_wp2_with fail
  rw [← hV1]
  clear hV1
  go_wp2_with (refine wpList_load_row rfl 31 _ rfl w.heap.size rfl 31 _ (0, 0) _ iO Tryz.underlying31 rfl infoOra ?_)
  refine (RC.out _ hB).mono ?_
  rintro e V2 ⟨rfl, hb⟩
  replace hB := hB.trans (hb.mono hB.size)
  clear hb
  go_wp2
  go_ret2
  exact ⟨rfl, hB⟩
section
variable [Tabs]
set_option maxRecDepth 100000 in
theorem oopen_ok (o : Ora) (A : Option Addr) (c : Nat) (A' : Option Addr) (c' : Nat) (l s : ByteArray) (w : World) (hT : Tab w) (h : InI w o.d A c A' c') (hr : right9 o = true) (hl : l.size = 16) (hs : s.size = 40) :
    Calls Tryz.prog 25 #[oraV o A c A' c', .string l, .string s] w fun r w' => r = .returned (.tuple #[.string (opnV9 U9 o l s).1, .int .i64 (opnV9 U9 o l s).2]) ∧ Below w.heap.size w w' := by
  have hk : o.key.size = 32 := ((right9_iff o).1 hr).key
  cases hm : real9 o with
  | true =>
    have WC : ∀ W, Calls Tryz.prog 36 #[oraV o A c A' c'] W fun r w' => r = .returned (.iface 93 (oraV o A c A' c')) ∧ Below W.heap.size W w' := fun W => by have := wayOf_any o A c A' c' W; rw [hm] at this; exact this
    have e0 : opnV9 U9 o l s = U9 o.key l s := by rw [opnV9, if_pos hr, if_pos (by simp [hl, hs]), hm]; rfl
    rw [e0]
    exact oopen_by o A c A' c' l s w _ _ 93 _ WC (mt9_byKeyopen o A c A' c') (fun W hb => bkOpen_any o A c A' c' l s W (hT.below hb hT.two) hk hl hs) cf9_byKeyopen h hr hl hs
  | false =>
    have WC : ∀ W, Calls Tryz.prog 36 #[oraV o A c A' c'] W fun r w' => r = .returned (.iface 94 (oraV o A c A' c')) ∧ Below W.heap.size W w' := fun W => by have := wayOf_any o A c A' c' W; rw [hm] at this; exact this
    have e0 : opnV9 U9 o l s = ope8 o.d l s := by rw [opnV9, if_pos hr, if_pos (by simp [hl, hs]), hm]; rfl
    rw [e0]
    exact oopen_by o A c A' c' l s w _ _ 94 _ WC (mt9_byTapeopen o A c A' c') (fun W hb => btOpen_any o A c A' c' l s W (h.keep hb)) cf9_byTapeopen h hr hl hs
end
end Go.Proofs.YtfgdcpolfekgjaaGreat
namespace Go.Proofs.YtfgdcpolfekgjaaGreat
open Go.RowKit Go.Shelf

set_option maxHeartbeats 1000000 in
theorem pick9_any (c n : Int) (w : World) (h0 : -9223372036854775808 ≤ c) (h1 : c ≤ 9223372036854775807) (hn : 0 < n) (hn2 : n ≤ 9223372036854775807) :
    Calls Tryz.prog 11 #[.int .i64 c, .int .i64 n] w fun e w' => e = .returned (.int .i64 (pickN c n)) ∧ w = w' := by
  by_cases hc : c < 0
  · have hd : pickN c n = (-(c + 1)) % n := by simp [pickN, hc]
    rw [hd]
    clear hd
    go_enter Tryz.func11, Tryz.ntmps11
    go_wp2
    go_ret
    refine ⟨?_, rfl⟩
    have e : -((c + 1).tmod n) = (-(c + 1)) % n := by rw [← Int.neg_tmod, Int.tmod_eq_emod_of_nonneg (by omega)]
    rw [← e]
    rfl
  · have hd : pickN c n = c % n := by simp [pickN, hc]
    rw [hd]
    clear hd
    go_enter Tryz.func11, Tryz.ntmps11
    go_wp2
    go_ret
    exact ⟨rfl, rfl⟩
/-- a word, of a raw number. -/
def wrd9 (j : Int) : ByteArray := if j = 0 then ⟨#[]⟩ else if j = 1 then ⟨#[97]⟩ else if j = 2 then ⟨#[97, 98]⟩ else if j = 3 then ⟨#[97, 98, 99]⟩ else if j = 4 then ⟨#[119, 111, 114, 100]⟩ else ⟨#[111, 116, 104, 101, 114, 119, 111, 114, 100]⟩
def word9 (c : Int) : ByteArray := wrd9 (pickN c 6)
theorem wrd9_size (j : Int) : (wrd9 j).size ≤ 20 := by
  unfold wrd9
  repeat' split
  all_goals decide
theorem word9_size (c : Int) : (word9 c).size ≤ 20 := wrd9_size _
abbrev wordL9 : Array Value := #[.string ⟨#[]⟩, .string ⟨#[97]⟩, .string ⟨#[97, 98]⟩, .string ⟨#[97, 98, 99]⟩, .string ⟨#[119, 111, 114, 100]⟩, .string ⟨#[111, 116, 104, 101, 114, 119, 111, 114, 100]⟩]
theorem wordL_at9 (p : Int) (h : 0 ≤ p ∧ p < 6) : wordL9[p.toNat]? = some (.string (wrd9 p)) := by
  rcases (by omega : p = 0 ∨ p = 1 ∨ p = 2 ∨ p = 3 ∨ p = 4 ∨ p = 5) with rfl | rfl | rfl | rfl | rfl | rfl <;> rfl

set_option maxRecDepth 100000 in
set_option maxHeartbeats 4000000 in
theorem word9_any (c : Int) (w : World) (h0 : -9223372036854775808 ≤ c ∧ c ≤ 9223372036854775807) :
    Calls Tryz.prog 15 #[.int .i64 c] w fun e w' => e = .returned (.string (word9 c)) ∧ Below w.heap.size w w' := by
  have PK := Lib.hid (fun w => pick9_any c 6 w h0.1 h0.2 (by omega) (by omega))
  have hp := pickN_bd c 6 (by omega)
  have hv : word9 c = wrd9 (pickN c 6) := rfl
  rw [hv]
  clear hv
  generalize pickN c 6 = p at *
  have hk : ∀ W : World, Is W w.heap.size 9 wordL9 → W.cell? ⟨w.heap.size, p.toNat, none⟩ = some (.string (wrd9 p)) := fun W h => (h.cell p.toNat).trans (wordL_at9 p hp)
  obtain ⟨x, hx⟩ : ∃ x, wrd9 p = x := ⟨_, rfl⟩
  rw [hx] at hk ⊢
  clear hx
  have HK := Lib.hid hk
  clear hk
  go_enter Tryz.func15, Tryz.ntmps15
  go_wp2_with fail
  have iL : Is (w.alloc (.cells wordL9 9)) w.heap.size 9 wordL9 := Is.new _ _ _
  have hB : Below w.heap.size w (w.alloc (.cells wordL9 9)) := (Below.refl _ _).alloc (Nat.le_refl _) _
  have ck := HK.out _ iL
  refine (PK.out _).mono ?_
  rintro e w' ⟨rfl, rfl⟩
  clear iL HK PK
  generalize w.alloc (.cells wordL9 9) = W at *
  obtain ⟨k, rfl⟩ : ∃ k : Nat, p = (k : Int) := ⟨p.toNat, by omega⟩
  rw [Int.toNat_natCast] at ck
  have hk : k < 6 := by omega
  have l1 : (k : Int) < 6 := by omega
  clear hp
  go_wp2
  go_ret
  exact ⟨rfl, hB⟩
end Go.Proofs.YtfgdcpolfekgjaaGreat
namespace Go.Proofs.YtfgdcpolfekgjaaGreat
open Go.RowKit Go.Shelf

/-- an oracle's lists lie where its slices point to, in blocks that there are. -/
structure InO (W : World) (o : Ora) (A : Option Addr) (c : Nat) (A' : Option Addr) (c' : Nat) : Prop where
  i : InI W o.d A c A' c'
  a : ∀ p, A = some p → p.block < W.heap.size
  b : ∀ p, A' = some p → p.block < W.heap.size
theorem InO.keep {W W' : World} {o : Ora} {A : Option Addr} {c : Nat} {A' : Option Addr} {c' : Nat} (h : InO W o A c A' c') (hb : Below W.heap.size W W') : InO W' o A c A' c' :=
  ⟨h.i.keep hb, fun p hp => Nat.lt_of_lt_of_le (h.a p hp) hb.size, fun p hp => Nat.lt_of_lt_of_le (h.b p hp) hb.size⟩
theorem InO.empty (W : World) (m : Int) (key B : ByteArray) (a : Int) (k : Bool) : InO W ⟨m, key, ⟨B, a, [], [], k⟩⟩ none 0 none 0 := ⟨InI.empty9 W B a k, fun p hp => (by cases hp), fun p hp => (by cases hp)⟩
section
variable [Tabs]
theorem olabel9 (o : Ora) (A : Option Addr) (c : Nat) (A' : Option Addr) (c' : Nat) (wd : ByteArray) (ep ct : Int) (w : World) (hT : Tab w) (h : InO w o A c A' c') (hr : right9 o = true) (hq : askE9 wd ep ct = true) :
    Calls Tryz.prog 18 #[oraV o A c A' c', .string wd, .int .i64 ep, .int .i64 ct] w fun r w' => ∃ A1 c1 A2 c2, r = .returned (.tuple #[.string (labV9 T9 o wd ep ct).1, oraV (labV9 T9 o wd ep ct).2.1 A1 c1 A2 c2, .int .i64 (labV9 T9 o wd ep ct).2.2]) ∧ InO w' (labV9 T9 o wd ep ct).2.1 A1 c1 A2 c2 ∧ Below w.heap.size w w' :=
  (olabel_ok o A c A' c' wd ep ct w h.a h.b hT h.i hr hq).mono fun _ _ ⟨A1, c1, A2, c2, h1, h2, h3, h4, h5⟩ => ⟨A1, c1, A2, c2, h1, ⟨h2, h4.lt9 h.a h3.size, h5.lt9 h.b h3.size⟩, h3⟩
end

/-- a key of bytes alike. -/
def keyB9 (k : Int) : ByteArray := strOfNums (List.replicate 32 k)
theorem keyB9_size (k : Int) : (keyB9 k).size = 32 := by rw [keyB9, strOfNums_size, List.length_replicate]
set_option maxRecDepth 100000 in
set_option maxHeartbeats 4000000 in
theorem fresh_any (m k : Int) (B : ByteArray) (a : Int) (hr : rightV B a = true) (_hk : 0 ≤ k ∧ k < 256) (w : World) :
    Calls Tryz.prog 31 #[.int .i64 m, .int .u8 k, .agg #[.string B, .int .i64 a]] w fun e w' => e = .returned (oraV ⟨m, keyB9 k, ⟨B, a, [], [], false⟩⟩ none 0 none 0) ∧ Below w.heap.size w w' := by
  obtain ⟨i0, hi0, hz0, hz1, hz2⟩ := infoThree8 infoByte8
  have RC := Lib.hid (fun W => tdright_any B a W)
  rw [hr] at RC
  clear hr
  obtain ⟨W1, hW1⟩ : ∃ W, W = (w.alloc (.cells #[.string B, .int .i64 a] 23)).alloc (.cells zer9 31) := ⟨_, rfl⟩
  have iT : Is W1 w.heap.size 23 #[.string B, .int .i64 a] := by rw [hW1]; exact heap_alloc2_old w _ _
  have iR : Is W1 (w.heap.size + 1) 31 zer9 := by rw [hW1]; exact heap_alloc2_new w _ _
  have hB : Below w.heap.size w W1 := by rw [hW1]; exact ((Below.refl _ _).alloc (Nat.le_refl _) _).alloc (by simp) _
  have yOne : ∀ u ∈ (#[.int .u8 k] : Array Value).toList, u.oneCell' = true := fun u hu => by simp only [List.mem_cons, List.not_mem_nil, or_false] at hu; subst hu; rfl
  go_enter Tryz.func31, Tryz.ntmps31
  go_wp2_with fail
  rw [← hW1]
  clear hW1
  go_wp2
  go_loopw [7, 8] (fun v i wr => ∃ (j : Nat) (A2 : Option Addr) (c2 : Nat), j ≤ 32 ∧ v = .slice A2 j c2 ∧ i = .int .i64 (j : Int) ∧ RowV wr w.heap.size 5 1 A2 c2 j (uL (List.replicate j k)) ∧ Is wr w.heap.size 23 #[.string B, .int .i64 a] ∧ Is wr (w.heap.size + 1) 31 zer9 ∧ Below w.heap.size w wr)
    (fun _ i _ => 32 - (intOf i).toNat)
  case atStart => exact ⟨0, none, 0, by omega, rfl, rfl, RowV.nil _ _ _ _, iT, iR, hB⟩
  case round =>
    clear iT hB iR
    obtain ⟨j, A2, c2, hj, rfl, rfl, hO, iT, iR, hB⟩ := hrel
    by_cases hlt : j < 32
    · have l1 : (j : Int) < 32 := by omega
      have w1i := IntWalk.i64_in ((j : Int) + 1) (by omega)
      have hs : List.replicate (j + 1) k = List.replicate j k ++ [k] := List.replicate_succ'
      replace hO := hO.alloc (.cells #[.int .u8 k] 5)
      replace iT := iT.alloc (.cells #[.int .u8 k] 5)
      replace iR := iR.alloc (.cells #[.int .u8 k] 5)
      replace hB := hB.alloc hB.size (.cells #[.int .u8 k] 5)
      have iN : Is (wr.alloc (.cells #[.int .u8 k] 5)) wr.heap.size 5 #[.int .u8 k] := Is.new _ _ _
      go_wp2_with (at_builtin; refine wpList_pushV rfl _ _ 63 5 i0 (.int .u8 0) 1 1 rfl Tryz.underlying63 hi0 hz0 hz1 hz2 rfl (by decide) w.heap.size A2 c2 j _ hO wr.heap.size 5 #[.int .u8 k] iN rfl yOne (by unfold maxLen; omega) (by omega) ⟨rfl, rfl⟩ hB.size ?_; intro A3 c3 V r3 hg3)
      go_roundw
      case rel =>
        have q2 := hO.isFar hg3 iT (by decide)
        have q4 := hO.isFar hg3 iR (by decide)
        have q3 := hO.belowG hB hg3
        first | exact ⟨j + 1, by omega, A3, c3, ⟨rfl, rfl, rfl⟩, by go_num, by rw [hs]; unfold uL; rw [List.map_append]; exact r3, q2, q4, q3⟩ | exact ⟨j + 1, by omega, A3, c3, rfl, by go_num, by rw [hs]; unfold uL; rw [List.map_append]; exact r3, q2, q4, q3⟩ | exact ⟨j + 1, A3, c3, by omega, rfl, by go_num, by rw [hs]; unfold uL; rw [List.map_append]; exact r3, q2, q4, q3⟩
      case measure => simp [intOf]; omega
    · obtain rfl : j = 32 := by omega
      go_wp2_with (refine wpList_load_row rfl 23 _ rfl w.heap.size rfl 23 _ (0, 0) _ iT Tryz.underlying23 rfl infoTape9 ?_)
      refine (RC.out _).mono ?_
      rintro e V2 ⟨rfl, hb⟩
      replace iT := iT.below hb iT.lt
      replace iR := iR.below hb iR.lt
      replace hO := hO.below hb
      replace hB := hB.trans (hb.mono hB.size)
      clear hb
      have hrl : (uL (List.replicate 32 k)).length = 32 := by rw [uL, List.length_map, List.length_replicate]
      have hgt : ∀ i, i < 32 → (uL (List.replicate 32 k))[i]? = some (.int .u8 ((List.replicate 32 k).getD i 0)) := fun i hi => by
        rw [List.getElem?_map, List.getD_eq_getElem?_getD, List.getElem?_eq_getElem (by rw [List.length_replicate]; omega)]; rfl
      have hne : A2 ≠ none := fun e => by
        subst e
        have h1 := hO.inV.nil_of
        rw [h1] at hrl
        cases hrl
      obtain ⟨p, rfl⟩ := Option.ne_none_iff_exists'.1 hne
      obtain ⟨g, off, hg, _, _⟩ := hO.inV 0 _ (hgt 0 (by omega))
      cases hg
      have cv := run_convert_bytes_arg (P := Tryz.prog) V2 63 5 Tryz.underlying63 Tryz.underlying5 g off 32 c2 (List.replicate 32 k) List.length_replicate (fun i hi => by
        obtain ⟨b, o, e, _, h⟩ := hO.inV i _ (hgt i hi)
        cases e
        exact h) 9 Tryz.underlying9
      change _ = Result.ok (Value.string (keyB9 k)) V2 at cv
      obtain ⟨Z, hZ⟩ : ∃ Z, Z = keyB9 k := ⟨_, rfl⟩
      rw [← hZ] at cv
      have HZ := Lib.hid hZ
      clear hZ
      clear hO hgt hrl hne hlt hj
      go_wp2_with (first
        | (refine wpList_load_row rfl 23 _ rfl w.heap.size rfl 23 _ (0, 0) _ iT Tryz.underlying23 rfl infoTape9 ?_)
        | (refine wpList_store_row rfl 31 _ _ rfl (w.heap.size + 1) (oraL ⟨m, Z, ⟨B, a, [], [], false⟩⟩ none 0 none 0) rfl rfl 31 _ iR infoOra rfl (oraL_one9 _ _ _ _ _) ?_))
      exact bodyPost_ret (results_cell_row Tryz.results31 _ _ (w.heap.size + 1) 31 _ (0, 0) _ rfl (iR.row _) Tryz.underlying31 rfl infoOra) rfl ⟨by rw [HZ.out], belowRow hB (by omega) _⟩
theorem run_allocO9 (W : World) {o : Oper} {a : Act} (ho : o.op = .alloc 31) : (execOp a.eval o).run Tryz.prog W = .ok (.value (.pointer (some ⟨W.heap.size, 0, none⟩))) (W.alloc (.cells zer9 31)) := by
  simp only [execOp, ho]
  go_simp
set_option maxRecDepth 100000 in
set_option maxHeartbeats 4000000 in
theorem oracle9_mid (W0 : World) (key m k : Int) (B : ByteArray) (a : Int) (DT : Nat) (hpu : IntKind.u8.wrap k = k) (iT : Is W0 DT 23 #[.string B, .int .i64 a])
    (PK : Hid (∀ W, Calls Tryz.prog 11 #[.int .i64 key, .int .i64 256] W fun e w' => e = .returned (.int .i64 k) ∧ W = w')) (FR : Hid (∀ W, Calls Tryz.prog 31 #[.int .i64 m, .int .u8 k, .agg #[.string B, .int .i64 a]] W fun e w' => e = .returned (.agg (oraL ⟨m, keyB9 k, ⟨B, a, [], [], false⟩⟩ none 0 none 0)) ∧ Below W.heap.size W w')) (x0 x2 x3 x4 x5 x7 x8 x10 x11 x12 x13 x14 x15 x16 x17 x18 x19 x20 x21 x22 x23 x24 x25 x26 x27 x28 x29 x30 x31 x32 x33 x34 x35 x36 x37 x38 x39 x40 x41 x42 x43 x44 x45 x46 x47 x48 x49 x50 x51 x52 x53 x54 x55 x56 x57 x58 x59 x60 x61 x62 x63 x64 x65 x66 x67 x68 x69 x70 x71 : Value) :
    (Code.region 4 (opsOf Tryz.f10 4) true).wp Tryz.prog (fun ex YY W => ex = .normal ∧ YY.defers = [] ∧ ∃ (DD : Nat), YY.tmps = #[x0, .int .i64 key, x2, x3, x4, x5, .pointer (some ⟨DT, 0, none⟩), x7, x8, .int .i64 m, .pointer (some ⟨DD, 0, none⟩), x11, x12, x13, x14, x15, x16, .int .i64 m, .int .i64 key, .int .i64 k, .int .u8 k, .agg #[.string B, .int .i64 a], .agg (oraL ⟨m, keyB9 k, ⟨B, a, [], [], false⟩⟩ none 0 none 0), x23, x24, x25, x26, x27, x28, x29, x30, x31, x32, x33, x34, x35, x36, x37, x38, x39, x40, x41, x42, x43, x44, x45, x46, x47, x48, x49, x50, x51, x52, x53, x54, x55, x56, x57, x58, x59, x60, x61, x62, x63, x64, x65, x66, x67, x68, x69, x70, x71] ∧ Below W0.heap.size W0 W ∧ W0.heap.size ≤ DD ∧ Is W DD 31 (oraL ⟨m, keyB9 k, ⟨B, a, [], [], false⟩⟩ none 0 none 0)) { tmps := #[x0, .int .i64 key, x2, x3, x4, x5, .pointer (some ⟨DT, 0, none⟩), x7, x8, .int .i64 m, x10, x11, x12, x13, x14, x15, x16, x17, x18, x19, x20, x21, x22, x23, x24, x25, x26, x27, x28, x29, x30, x31, x32, x33, x34, x35, x36, x37, x38, x39, x40, x41, x42, x43, x44, x45, x46, x47, x48, x49, x50, x51, x52, x53, x54, x55, x56, x57, x58, x59, x60, x61, x62, x63, x64, x65, x66, x67, x68, x69, x70, x71], defers := [] } W0 := by
  have HT := Lib.hid (fun (W : World) (hb : Below W0.heap.size W0 W) => iT.below hb iT.lt)
  have hB : Below W0.heap.size W0 (W0.drewN 1) := belowN (Below.refl _ _) 1
  generalize hQ : (fun (ex : Exit) (YY : Act) (W : World) => ex = .normal ∧ YY.defers = [] ∧ ∃ (DD : Nat), YY.tmps = #[x0, .int .i64 key, x2, x3, x4, x5, .pointer (some ⟨DT, 0, none⟩), x7, x8, .int .i64 m, .pointer (some ⟨DD, 0, none⟩), x11, x12, x13, x14, x15, x16, .int .i64 m, .int .i64 key, .int .i64 k, .int .u8 k, .agg #[.string B, .int .i64 a], .agg (oraL ⟨m, keyB9 k, ⟨B, a, [], [], false⟩⟩ none 0 none 0), x23, x24, x25, x26, x27, x28, x29, x30, x31, x32, x33, x34, x35, x36, x37, x38, x39, x40, x41, x42, x43, x44, x45, x46, x47, x48, x49, x50, x51, x52, x53, x54, x55, x56, x57, x58, x59, x60, x61, x62, x63, x64, x65, x66, x67, x68, x69, x70, x71] ∧ Below W0.heap.size W0 W ∧ W0.heap.size ≤ DD ∧ Is W DD 31 (oraL ⟨m, keyB9 k, ⟨B, a, [], [], false⟩⟩ none 0 none 0)) = Q
  have HQN : ∀ c a W, ¬ Q (.panic c) a W := fun c a W h => by subst hQ; exact nomatch h.1
  have ST2_5_6_7 : ∀ (W : World) (DD : Nat), Below W0.heap.size W0 W → W0.heap.size ≤ DD → Is W DD 31 (oraL ⟨m, keyB9 k, ⟨B, a, [], [], false⟩⟩ none 0 none 0) → wpAnyH Tryz.prog .any (opsOf Tryz.f10 4) Q (fun W => Below W0.heap.size W0 W) 0 #[true, true, true, true, true, true, true, true] { tmps := #[x0, .int .i64 key, x2, x3, x4, x5, .pointer (some ⟨DT, 0, none⟩), x7, x8, .int .i64 m, .pointer (some ⟨DD, 0, none⟩), x11, x12, x13, x14, x15, x16, .int .i64 m, .int .i64 key, .int .i64 k, .int .u8 k, .agg #[.string B, .int .i64 a], .agg (oraL ⟨m, keyB9 k, ⟨B, a, [], [], false⟩⟩ none 0 none 0), x23, x24, x25, x26, x27, x28, x29, x30, x31, x32, x33, x34, x35, x36, x37, x38, x39, x40, x41, x42, x43, x44, x45, x46, x47, x48, x49, x50, x51, x52, x53, x54, x55, x56, x57, x58, x59, x60, x61, x62, x63, x64, x65, x66, x67, x68, x69, x70, x71], defers := [] } W := by
    intro W DD hB hDD iE
    refine wpAnyH_done (by kernel_rfl) ?_ _
    subst hQ
    exact ⟨rfl, rfl, DD, rfl, hB, hDD, iE⟩
  have ST2_5_6 : ∀ (W : World) (DD : Nat), Below W0.heap.size W0 W → W0.heap.size ≤ DD → Is W DD 31 zer9 → wpAnyH Tryz.prog .any (opsOf Tryz.f10 4) Q (fun W => Below W0.heap.size W0 W) 1 #[true, true, true, true, true, true, true, false] { tmps := #[x0, .int .i64 key, x2, x3, x4, x5, .pointer (some ⟨DT, 0, none⟩), x7, x8, .int .i64 m, .pointer (some ⟨DD, 0, none⟩), x11, x12, x13, x14, x15, x16, .int .i64 m, .int .i64 key, .int .i64 k, .int .u8 k, .agg #[.string B, .int .i64 a], .agg (oraL ⟨m, keyB9 k, ⟨B, a, [], [], false⟩⟩ none 0 none 0), x23, x24, x25, x26, x27, x28, x29, x30, x31, x32, x33, x34, x35, x36, x37, x38, x39, x40, x41, x42, x43, x44, x45, x46, x47, x48, x49, x50, x51, x52, x53, x54, x55, x56, x57, x58, x59, x60, x61, x62, x63, x64, x65, x66, x67, x68, x69, x70, x71], defers := [] } W := by
    intro W DD hB hDD iD
    refine wpAnyH_ready (by kernel_rfl) (by simp) (AllReadyH.cons (i := 7) (at_nth rfl) ?_ (AllReadyH.nil))
    · have kB := belowRow hB hDD (oraL ⟨m, keyB9 k, ⟨B, a, [], [], false⟩⟩ none 0 none 0)
      refine arm9_skip (by kernel_rfl) (run_row9 (ty := 31) (x := .tmp 10) (y := .tmp 22) (cs := (oraL ⟨m, keyB9 k, ⟨B, a, [], [], false⟩⟩ none 0 none 0)) (by kernel_rfl) (by kernel_rfl) (by kernel_rfl) iD infoOra rfl (oraL_one9 _ _ _ _ _)) kB ?_
      try simp only [Act.put]
      have iE := iD.row (oraL ⟨m, keyB9 k, ⟨B, a, [], [], false⟩⟩ none 0 none 0)
      replace hB := kB
      exact ST2_5_6_7 _ _ hB hDD iE
  have ST2_5 : ∀ (W : World), Below W0.heap.size W0 W → wpAnyH Tryz.prog .any (opsOf Tryz.f10 4) Q (fun W => Below W0.heap.size W0 W) 2 #[true, true, true, true, true, true, false, false] { tmps := #[x0, .int .i64 key, x2, x3, x4, x5, .pointer (some ⟨DT, 0, none⟩), x7, x8, .int .i64 m, x10, x11, x12, x13, x14, x15, x16, .int .i64 m, .int .i64 key, .int .i64 k, .int .u8 k, .agg #[.string B, .int .i64 a], .agg (oraL ⟨m, keyB9 k, ⟨B, a, [], [], false⟩⟩ none 0 none 0), x23, x24, x25, x26, x27, x28, x29, x30, x31, x32, x33, x34, x35, x36, x37, x38, x39, x40, x41, x42, x43, x44, x45, x46, x47, x48, x49, x50, x51, x52, x53, x54, x55, x56, x57, x58, x59, x60, x61, x62, x63, x64, x65, x66, x67, x68, x69, x70, x71], defers := [] } W := by
    intro W hB
    refine wpAnyH_ready (by kernel_rfl) (by simp) (AllReadyH.cons (i := 6) (at_nth rfl) ?_ (AllReadyH.nil))
    · have iD := Is.new W 31 zer9
      have hDD : W0.heap.size ≤ W.heap.size := hB.size
      replace hB := hB.alloc hB.size (.cells zer9 31)
      refine arm9_value (by kernel_rfl) (run_allocO9 _ (by kernel_rfl)) hB ?_
      simp only [Act.put, List.setIfInBounds_toArray, List.set_cons_succ, List.set_cons_zero]
      exact ST2_5_6 _ _ hB hDD iD
  have ST2_6 : ∀ (W : World) (DD : Nat), Below W0.heap.size W0 W → W0.heap.size ≤ DD → Is W DD 31 zer9 → wpAnyH Tryz.prog .any (opsOf Tryz.f10 4) Q (fun W => Below W0.heap.size W0 W) 2 #[true, true, true, true, true, false, true, false] { tmps := #[x0, .int .i64 key, x2, x3, x4, x5, .pointer (some ⟨DT, 0, none⟩), x7, x8, .int .i64 m, .pointer (some ⟨DD, 0, none⟩), x11, x12, x13, x14, x15, x16, .int .i64 m, .int .i64 key, .int .i64 k, .int .u8 k, .agg #[.string B, .int .i64 a], x22, x23, x24, x25, x26, x27, x28, x29, x30, x31, x32, x33, x34, x35, x36, x37, x38, x39, x40, x41, x42, x43, x44, x45, x46, x47, x48, x49, x50, x51, x52, x53, x54, x55, x56, x57, x58, x59, x60, x61, x62, x63, x64, x65, x66, x67, x68, x69, x70, x71], defers := [] } W := by
    intro W DD hB hDD iD
    refine wpAnyH_ready (by kernel_rfl) (by simp) (AllReadyH.cons (i := 5) (at_nth rfl) ?_ (AllReadyH.nil))
    · refine arm9_call (by kernel_rfl) (fun wy => by kernel_rfl) ((FR.out _).mono ?_)
      rintro e Wn ⟨rfl, hb⟩
      replace hB := hB.trans (hb.mono hB.size)
      replace iD := iD.below hb iD.lt
      refine ⟨_, rfl, hB, ?_⟩
      simp only [Act.put, List.setIfInBounds_toArray, List.set_cons_succ, List.set_cons_zero]
      exact ST2_5_6 _ _ hB hDD iD
  have ST2 : ∀ (W : World), Below W0.heap.size W0 W → wpAnyH Tryz.prog .any (opsOf Tryz.f10 4) Q (fun W => Below W0.heap.size W0 W) 3 #[true, true, true, true, true, false, false, false] { tmps := #[x0, .int .i64 key, x2, x3, x4, x5, .pointer (some ⟨DT, 0, none⟩), x7, x8, .int .i64 m, x10, x11, x12, x13, x14, x15, x16, .int .i64 m, .int .i64 key, .int .i64 k, .int .u8 k, .agg #[.string B, .int .i64 a], x22, x23, x24, x25, x26, x27, x28, x29, x30, x31, x32, x33, x34, x35, x36, x37, x38, x39, x40, x41, x42, x43, x44, x45, x46, x47, x48, x49, x50, x51, x52, x53, x54, x55, x56, x57, x58, x59, x60, x61, x62, x63, x64, x65, x66, x67, x68, x69, x70, x71], defers := [] } W := by
    intro W hB
    refine wpAnyH_ready (by kernel_rfl) (by simp) (AllReadyH.cons (i := 5) (at_nth rfl) ?_ (AllReadyH.cons (i := 6) (at_nth rfl) ?_ (AllReadyH.nil)))
    · refine arm9_call (by kernel_rfl) (fun wy => by kernel_rfl) ((FR.out _).mono ?_)
      rintro e Wn ⟨rfl, hb⟩
      replace hB := hB.trans (hb.mono hB.size)
      refine ⟨_, rfl, hB, ?_⟩
      simp only [Act.put, List.setIfInBounds_toArray, List.set_cons_succ, List.set_cons_zero]
      exact ST2_5 _ hB
    · have iD := Is.new W 31 zer9
      have hDD : W0.heap.size ≤ W.heap.size := hB.size
      replace hB := hB.alloc hB.size (.cells zer9 31)
      refine arm9_value (by kernel_rfl) (run_allocO9 _ (by kernel_rfl)) hB ?_
      simp only [Act.put, List.setIfInBounds_toArray, List.set_cons_succ, List.set_cons_zero]
      exact ST2_6 _ _ hB hDD iD
  have ST6 : ∀ (W : World) (DD : Nat), Below W0.heap.size W0 W → W0.heap.size ≤ DD → Is W DD 31 zer9 → wpAnyH Tryz.prog .any (opsOf Tryz.f10 4) Q (fun W => Below W0.heap.size W0 W) 4 #[true, true, false, false, true, false, true, false] { tmps := #[x0, .int .i64 key, x2, x3, x4, x5, .pointer (some ⟨DT, 0, none⟩), x7, x8, .int .i64 m, .pointer (some ⟨DD, 0, none⟩), x11, x12, x13, x14, x15, x16, .int .i64 m, .int .i64 key, x19, x20, .agg #[.string B, .int .i64 a], x22, x23, x24, x25, x26, x27, x28, x29, x30, x31, x32, x33, x34, x35, x36, x37, x38, x39, x40, x41, x42, x43, x44, x45, x46, x47, x48, x49, x50, x51, x52, x53, x54, x55, x56, x57, x58, x59, x60, x61, x62, x63, x64, x65, x66, x67, x68, x69, x70, x71], defers := [] } W := by
    intro W DD hB hDD iD
    refine wpAnyH_ready (by kernel_rfl) (by simp) (AllReadyH.cons (i := 2) (at_nth rfl) ?_ (AllReadyH.nil))
    · refine arm9_call (by kernel_rfl) (fun wy => by kernel_rfl) ((PK.out _).mono ?_)
      rintro e Wn ⟨rfl, rfl⟩
      refine ⟨_, rfl, hB, ?_⟩
      simp only [Act.put, List.setIfInBounds_toArray, List.set_cons_succ, List.set_cons_zero]
      refine wpAnyH_pure (i := 3) (v := .int .u8 k) (at_nth rfl) (by kernel_rfl) (by kernel_rfl) (by kernel_rfl) (fun _ _ _ h => absurd h (HQN _ _ _)) (by kernel_rfl) (fun w hSw => by go_simp) hB ?_
      simp only [Act.put, List.setIfInBounds_toArray, List.set_cons_succ, List.set_cons_zero]
      exact ST2_6 _ _ hB hDD iD
  have ST : ∀ (W : World), Below W0.heap.size W0 W → wpAnyH Tryz.prog .any (opsOf Tryz.f10 4) Q (fun W => Below W0.heap.size W0 W) 5 #[true, true, false, false, true, false, false, false] { tmps := #[x0, .int .i64 key, x2, x3, x4, x5, .pointer (some ⟨DT, 0, none⟩), x7, x8, .int .i64 m, x10, x11, x12, x13, x14, x15, x16, .int .i64 m, .int .i64 key, x19, x20, .agg #[.string B, .int .i64 a], x22, x23, x24, x25, x26, x27, x28, x29, x30, x31, x32, x33, x34, x35, x36, x37, x38, x39, x40, x41, x42, x43, x44, x45, x46, x47, x48, x49, x50, x51, x52, x53, x54, x55, x56, x57, x58, x59, x60, x61, x62, x63, x64, x65, x66, x67, x68, x69, x70, x71], defers := [] } W := by
    intro W hB
    refine wpAnyH_ready (by kernel_rfl) (by simp) (AllReadyH.cons (i := 2) (at_nth rfl) ?_ (AllReadyH.cons (i := 6) (at_nth rfl) ?_ (AllReadyH.nil)))
    · refine arm9_call (by kernel_rfl) (fun wy => by kernel_rfl) ((PK.out _).mono ?_)
      rintro e Wn ⟨rfl, rfl⟩
      refine ⟨_, rfl, hB, ?_⟩
      simp only [Act.put, List.setIfInBounds_toArray, List.set_cons_succ, List.set_cons_zero]
      refine wpAnyH_pure (i := 3) (v := .int .u8 k) (at_nth rfl) (by kernel_rfl) (by kernel_rfl) (by kernel_rfl) (fun _ _ _ h => absurd h (HQN _ _ _)) (by kernel_rfl) (fun w hSw => by go_simp) hB ?_
      simp only [Act.put, List.setIfInBounds_toArray, List.set_cons_succ, List.set_cons_zero]
      exact ST2 _ hB
    · have iD := Is.new W 31 zer9
      have hDD : W0.heap.size ≤ W.heap.size := hB.size
      replace hB := hB.alloc hB.size (.cells zer9 31)
      refine arm9_value (by kernel_rfl) (run_allocO9 _ (by kernel_rfl)) hB ?_
      simp only [Act.put, List.setIfInBounds_toArray, List.set_cons_succ, List.set_cons_zero]
      exact ST6 _ _ hB hDD iD
  refine wp_region_held_drew (S := fun W => Below W0.heap.size W0 W) (by kernel_rfl) hB (fun hS => ?_)
  change wpAnyH _ _ (opsOf Tryz.f10 4) _ _ 8 (Array.replicate 8 false) _ (W0.drewN 1)
  clear hS
  replace hB : Below W0.heap.size W0 (W0.drewN 1) := belowN (Below.refl _ _) 1
  refine wpAnyH_pure (i := 0) (v := .int .i64 m) (at_nth rfl) (by kernel_rfl) (by kernel_rfl) (by kernel_rfl) (fun _ _ _ h => absurd h (HQN _ _ _)) (by kernel_rfl) (fun w hSw => by kernel_rfl) hB ?_
  simp only [Act.put, List.setIfInBounds_toArray, List.set_cons_succ, List.set_cons_zero]
  refine wpAnyH_pure (i := 1) (v := .int .i64 key) (at_nth rfl) (by kernel_rfl) (by kernel_rfl) (by kernel_rfl) (fun _ _ _ h => absurd h (HQN _ _ _)) (by kernel_rfl) (fun w hSw => by kernel_rfl) hB ?_
  simp only [Act.put, List.setIfInBounds_toArray, List.set_cons_succ, List.set_cons_zero]
  refine wpAnyH_pure (i := 4) (v := .agg #[.string B, .int .i64 a]) (at_nth rfl) (by kernel_rfl) (by kernel_rfl) (by kernel_rfl) (fun _ _ _ h => absurd h (HQN _ _ _)) (by kernel_rfl) (fun w hSw => by exact exec_load (x := .tmp 6) (by kernel_rfl) (by kernel_rfl) (run_loadVar_row _ _ 23 23 _ (0, 0) _ (HT.out _ hSw) Tryz.underlying23 rfl infoTape9)) hB ?_
  simp only [Act.put, List.setIfInBounds_toArray, List.set_cons_succ, List.set_cons_zero]
  exact ST _ hB
set_option maxRecDepth 100000 in
set_option maxHeartbeats 4000000 in
theorem oracle9_any (real : Bool) (key : Int) (B : ByteArray) (a : Int) (w : World) (hr : rightV B a = true) (h0 : -9223372036854775808 ≤ key ∧ key ≤ 9223372036854775807) :
    Calls Tryz.prog 10 #[.bool real, .int .i64 key, .agg #[.string B, .int .i64 a], .slice none 0 0] w fun e w' => e = .returned (oraV ⟨if real then 1 else 2, keyB9 (pickN key 256), ⟨B, a, [], [], false⟩⟩ none 0 none 0) ∧ Below w.heap.size w w' := by
  have PK := Lib.hid (fun w => pick9_any key 256 w h0.1 h0.2 (by omega) (by omega))
  have hk := pickN_bd key 256 (by omega)
  generalize pickN key 256 = k at *
  have hpu : IntKind.u8.wrap k = k := by rw [show IntKind.u8.wrap k = k % 256 from rfl]; omega
  obtain ⟨W1, hW1⟩ : ∃ W, W = (w.alloc (.cells #[.string B, .int .i64 a] 23)).alloc (.cells zer9 31) := ⟨_, rfl⟩
  have iT : Is W1 w.heap.size 23 #[.string B, .int .i64 a] := by rw [hW1]; exact heap_alloc2_old w _ _
  have iR : Is W1 (w.heap.size + 1) 31 zer9 := by rw [hW1]; exact heap_alloc2_new w _ _
  have hB : Below w.heap.size w W1 := by rw [hW1]; exact ((Below.refl _ _).alloc (Nat.le_refl _) _).alloc (by simp) _
  cases real with
  | true =>
    have FR : Hid (∀ W, Calls Tryz.prog 31 #[.int .i64 1, .int .u8 k, .agg #[.string B, .int .i64 a]] W fun e w' => e = .returned (.agg (oraL ⟨1, keyB9 k, ⟨B, a, [], [], false⟩⟩ none 0 none 0)) ∧ Below W.heap.size W w') := Lib.hid fun W => fresh_any 1 k B a hr hk W
    clear hr hk
    go_enter Tryz.func10, Tryz.ntmps10
    go_wp2_with fail
    rw [← hW1]
    clear hW1
    go_wp2
    refine Code.wp_mono ?_ (oracle9_mid W1 key 1 k B a w.heap.size hpu iT PK FR _ _ _ _ _ _ _ _ _ _ _ _ _ _ _ _ _ _ _ _ _ _ _ _ _ _ _ _ _ _ _ _ _ _ _ _ _ _ _ _ _ _ _ _ _ _ _ _ _ _ _ _ _ _ _ _ _ _ _ _ _ _ _ _ _ _ _ _ _)
    rintro e YY V2 ⟨rfl, hd, DD, hT, hb, hDD, iE⟩
    obtain ⟨T0, Dd⟩ := YY
    subst hT
    obtain rfl : Dd = [] := hd
    replace iR := iR.below hb iR.lt
    replace hB := hB.trans (hb.mono hB.size)
    clear hb iT PK FR
    go_wp2
    go_loopw [11] (fun i wr => i = .int .i64 0 ∧ wr = V2) (fun _ _ => 0)
    case atStart => exact ⟨rfl, rfl⟩
    case round =>
      obtain ⟨rfl, rfl⟩ := hrel
      go_wp2_with (first
        | (refine wpList_load_row rfl 31 _ rfl DD rfl 31 _ (0, 0) _ iE Tryz.underlying31 rfl infoOra ?_)
        | (refine wpList_store_row rfl 31 _ _ rfl (w.heap.size + 1) (oraL ⟨1, keyB9 k, ⟨B, a, [], [], false⟩⟩ none 0 none 0) rfl rfl 31 _ iR infoOra rfl (oraL_one9 _ _ _ _ _) ?_))
      exact bodyPost_ret (results_cell_row Tryz.results10 _ _ (w.heap.size + 1) 31 _ (0, 0) _ rfl (iR.row _) Tryz.underlying31 rfl infoOra) rfl ⟨rfl, belowRow hB (by omega) _⟩
  | false =>
    have FR : Hid (∀ W, Calls Tryz.prog 31 #[.int .i64 2, .int .u8 k, .agg #[.string B, .int .i64 a]] W fun e w' => e = .returned (.agg (oraL ⟨2, keyB9 k, ⟨B, a, [], [], false⟩⟩ none 0 none 0)) ∧ Below W.heap.size W w') := Lib.hid fun W => fresh_any 2 k B a hr hk W
    clear hr hk
    go_enter Tryz.func10, Tryz.ntmps10
    go_wp2_with fail
    rw [← hW1]
    clear hW1
    go_wp2
    refine Code.wp_mono ?_ (oracle9_mid W1 key 2 k B a w.heap.size hpu iT PK FR _ _ _ _ _ _ _ _ _ _ _ _ _ _ _ _ _ _ _ _ _ _ _ _ _ _ _ _ _ _ _ _ _ _ _ _ _ _ _ _ _ _ _ _ _ _ _ _ _ _ _ _ _ _ _ _ _ _ _ _ _ _ _ _ _ _ _ _ _)
    rintro e YY V2 ⟨rfl, hd, DD, hT, hb, hDD, iE⟩
    obtain ⟨T0, Dd⟩ := YY
    subst hT
    obtain rfl : Dd = [] := hd
    replace iR := iR.below hb iR.lt
    replace hB := hB.trans (hb.mono hB.size)
    clear hb iT PK FR
    go_wp2
    go_loopw [11] (fun i wr => i = .int .i64 0 ∧ wr = V2) (fun _ _ => 0)
    case atStart => exact ⟨rfl, rfl⟩
    case round =>
      obtain ⟨rfl, rfl⟩ := hrel
      go_wp2_with (first
        | (refine wpList_load_row rfl 31 _ rfl DD rfl 31 _ (0, 0) _ iE Tryz.underlying31 rfl infoOra ?_)
        | (refine wpList_store_row rfl 31 _ _ rfl (w.heap.size + 1) (oraL ⟨2, keyB9 k, ⟨B, a, [], [], false⟩⟩ none 0 none 0) rfl rfl 31 _ iR infoOra rfl (oraL_one9 _ _ _ _ _) ?_))
      exact bodyPost_ret (results_cell_row Tryz.results10 _ _ (w.heap.size + 1) 31 _ (0, 0) _ rfl (iR.row _) Tryz.underlying31 rfl infoOra) rfl ⟨rfl, belowRow hB (by omega) _⟩
end Go.Proofs.YtfgdcpolfekgjaaGreat
namespace Go.Proofs.YtfgdcpolfekgjaaGreat
open Go.RowKit Go.Shelf

set_option maxRecDepth 100000 in
set_option maxHeartbeats 8000000 in
theorem awake9_cel (W0 : World) (o o' : Ora) (A1 : Option Addr) (c1 : Nat) (A2 : Option Addr) (c2 : Nat) (DO : Nat) (iO : Is W0 DO 31 (oraL o A1 c1 A2 c2)) (hA : ∀ p, A1 = some p → p.block < W0.heap.size) (hA' : ∀ p, A2 = some p → p.block < W0.heap.size)
    (s tx r : ByteArray) (TX : Hid (∀ W, Calls Tryz.prog 22 #[.int .i64 1] W fun e w' => e = .returned (.string tx) ∧ Below W.heap.size W w')) (CL : Hid (∀ W, Below W0.heap.size W0 W → Calls Tryz.prog 23 #[oraV o A1 c1 A2 c2, .string s, .string tx] W fun e w' => ∃ F1 f1 F2 f2, e = .returned (.tuple #[.string r, oraV o' F1 f1 F2 f2, .int .i64 0]) ∧ InI w' o'.d F1 f1 F2 f2 ∧ Below W.heap.size W w' ∧ Own8 W w' A1 F1 ∧ Own8 W w' A2 F2)) (x0 x1 x2 x3 x4 x5 x6 x7 x8 x9 x12 x13 x14 x15 x16 x17 x18 x19 x20 x21 x22 x23 x24 x25 x26 x27 x28 x29 x30 x31 x32 x33 x34 x35 x36 x37 x38 x39 x40 x41 x42 x43 x44 x45 x46 x47 x48 x49 x50 x51 x52 x53 x54 x55 x56 x57 x58 x59 x60 x61 x62 x63 x64 x65 x66 x67 x68 x69 x70 x71 x72 x73 x74 x75 x76 x77 x78 x79 x80 x81 x82 x83 x84 x85 x86 x87 x88 x89 x90 x91 x92 x93 x94 x95 x96 x97 x98 x99 x100 x101 x102 x103 x104 x105 x106 x107 x108 x109 x110 x111 x112 x113 x114 x115 x116 x117 x118 x119 x120 x121 x122 x123 x124 x125 x126 x127 x128 x129 x130 x131 x132 x133 x134 x135 x136 x137 x138 x139 x140 x141 x142 x143 x144 x145 x146 x147 x148 x149 x150 x151 : Value) :
    (Code.region 8 (opsOf Tryz.f9 8) true).wp Tryz.prog (fun ex YY W => ex = .normal ∧ YY.defers = [] ∧ ∃ (F1 : Option Addr) (f1 : Nat) (F2 : Option Addr) (f2 : Nat) (DD : Nat), YY.tmps = #[x0, x1, x2, x3, x4, x5, x6, x7, x8, x9, .string s, .pointer (some ⟨DO, 0, none⟩), x12, x13, x14, x15, .string r, .pointer (some ⟨DD, 0, none⟩), .int .i64 0, x19, x20, x21, x22, x23, x24, x25, x26, x27, x28, x29, x30, x31, x32, x33, x34, x35, x36, x37, x38, x39, x40, x41, x42, x43, x44, x45, x46, x47, x48, x49, x50, x51, x52, x53, x54, x55, x56, x57, x58, x59, .tuple #[.string r, (oraV o' F1 f1 F2 f2), .int .i64 0], .agg (oraL o A1 c1 A2 c2), .string s, .string tx, .tuple #[.string r, (oraV o' F1 f1 F2 f2), .int .i64 0], .string r, (oraV o' F1 f1 F2 f2), .int .i64 0, x68, x69, x70, x71, x72, x73, x74, x75, x76, x77, x78, x79, x80, x81, x82, x83, x84, x85, x86, x87, x88, x89, x90, x91, x92, x93, x94, x95, x96, x97, x98, x99, x100, x101, x102, x103, x104, x105, x106, x107, x108, x109, x110, x111, x112, x113, x114, x115, x116, x117, x118, x119, x120, x121, x122, x123, x124, x125, x126, x127, x128, x129, x130, x131, x132, x133, x134, x135, x136, x137, x138, x139, x140, x141, x142, x143, x144, x145, x146, x147, x148, x149, x150, x151] ∧ Below W0.heap.size W0 W ∧ W0.heap.size ≤ DD ∧ Is W DD 31 (oraL o' F1 f1 F2 f2) ∧ InI W o'.d F1 f1 F2 f2 ∧ Own8 W0 W A1 F1 ∧ Own8 W0 W A2 F2 ∧ (∀ p, F1 = some p → p.block < W.heap.size) ∧ (∀ p, F2 = some p → p.block < W.heap.size) ∧ (∀ p, F1 = some p → (some DD : Option Nat) ≠ some p.block) ∧ (∀ p, F2 = some p → (some DD : Option Nat) ≠ some p.block)) { tmps := #[x0, x1, x2, x3, x4, x5, x6, x7, x8, x9, .string s, .pointer (some ⟨DO, 0, none⟩), x12, x13, x14, x15, x16, x17, x18, x19, x20, x21, x22, x23, x24, x25, x26, x27, x28, x29, x30, x31, x32, x33, x34, x35, x36, x37, x38, x39, x40, x41, x42, x43, x44, x45, x46, x47, x48, x49, x50, x51, x52, x53, x54, x55, x56, x57, x58, x59, x60, x61, x62, x63, x64, x65, x66, x67, x68, x69, x70, x71, x72, x73, x74, x75, x76, x77, x78, x79, x80, x81, x82, x83, x84, x85, x86, x87, x88, x89, x90, x91, x92, x93, x94, x95, x96, x97, x98, x99, x100, x101, x102, x103, x104, x105, x106, x107, x108, x109, x110, x111, x112, x113, x114, x115, x116, x117, x118, x119, x120, x121, x122, x123, x124, x125, x126, x127, x128, x129, x130, x131, x132, x133, x134, x135, x136, x137, x138, x139, x140, x141, x142, x143, x144, x145, x146, x147, x148, x149, x150, x151], defers := [] } W0 := by
  have HO := Lib.hid (fun (W : World) (hb : Below W0.heap.size W0 W) => iO.below hb iO.lt)
  have hB : Below W0.heap.size W0 (W0.drewN 1) := belowN (Below.refl _ _) 1
  generalize hQ : (fun (ex : Exit) (YY : Act) (W : World) => ex = .normal ∧ YY.defers = [] ∧ ∃ (F1 : Option Addr) (f1 : Nat) (F2 : Option Addr) (f2 : Nat) (DD : Nat), YY.tmps = #[x0, x1, x2, x3, x4, x5, x6, x7, x8, x9, .string s, .pointer (some ⟨DO, 0, none⟩), x12, x13, x14, x15, .string r, .pointer (some ⟨DD, 0, none⟩), .int .i64 0, x19, x20, x21, x22, x23, x24, x25, x26, x27, x28, x29, x30, x31, x32, x33, x34, x35, x36, x37, x38, x39, x40, x41, x42, x43, x44, x45, x46, x47, x48, x49, x50, x51, x52, x53, x54, x55, x56, x57, x58, x59, .tuple #[.string r, (oraV o' F1 f1 F2 f2), .int .i64 0], .agg (oraL o A1 c1 A2 c2), .string s, .string tx, .tuple #[.string r, (oraV o' F1 f1 F2 f2), .int .i64 0], .string r, (oraV o' F1 f1 F2 f2), .int .i64 0, x68, x69, x70, x71, x72, x73, x74, x75, x76, x77, x78, x79, x80, x81, x82, x83, x84, x85, x86, x87, x88, x89, x90, x91, x92, x93, x94, x95, x96, x97, x98, x99, x100, x101, x102, x103, x104, x105, x106, x107, x108, x109, x110, x111, x112, x113, x114, x115, x116, x117, x118, x119, x120, x121, x122, x123, x124, x125, x126, x127, x128, x129, x130, x131, x132, x133, x134, x135, x136, x137, x138, x139, x140, x141, x142, x143, x144, x145, x146, x147, x148, x149, x150, x151] ∧ Below W0.heap.size W0 W ∧ W0.heap.size ≤ DD ∧ Is W DD 31 (oraL o' F1 f1 F2 f2) ∧ InI W o'.d F1 f1 F2 f2 ∧ Own8 W0 W A1 F1 ∧ Own8 W0 W A2 F2 ∧ (∀ p, F1 = some p → p.block < W.heap.size) ∧ (∀ p, F2 = some p → p.block < W.heap.size) ∧ (∀ p, F1 = some p → (some DD : Option Nat) ≠ some p.block) ∧ (∀ p, F2 = some p → (some DD : Option Nat) ≠ some p.block)) = Q
  have HQN : ∀ c a W, ¬ Q (.panic c) a W := fun c a W h => by subst hQ; exact nomatch h.1
  have ST2_3_8_10 : ∀ (W : World) (F1 : Option Addr) (f1 : Nat) (F2 : Option Addr) (f2 : Nat) (DD : Nat), Below W0.heap.size W0 W → W0.heap.size ≤ DD → Is W DD 31 (oraL o' F1 f1 F2 f2) → InI W o'.d F1 f1 F2 f2 → Own8 W0 W A1 F1 → Own8 W0 W A2 F2 → (∀ p, F1 = some p → p.block < W.heap.size) → (∀ p, F2 = some p → p.block < W.heap.size) → (∀ p, F1 = some p → (some DD : Option Nat) ≠ some p.block) → (∀ p, F2 = some p → (some DD : Option Nat) ≠ some p.block) → wpAnyH Tryz.prog .any (opsOf Tryz.f9 8) Q (fun W => Below W0.heap.size W0 W) 0 #[true, true, true, true, true, true, true, true, true, true, true, true] { tmps := #[x0, x1, x2, x3, x4, x5, x6, x7, x8, x9, .string s, .pointer (some ⟨DO, 0, none⟩), x12, x13, x14, x15, .string r, .pointer (some ⟨DD, 0, none⟩), .int .i64 0, x19, x20, x21, x22, x23, x24, x25, x26, x27, x28, x29, x30, x31, x32, x33, x34, x35, x36, x37, x38, x39, x40, x41, x42, x43, x44, x45, x46, x47, x48, x49, x50, x51, x52, x53, x54, x55, x56, x57, x58, x59, .tuple #[.string r, (oraV o' F1 f1 F2 f2), .int .i64 0], .agg (oraL o A1 c1 A2 c2), .string s, .string tx, .tuple #[.string r, (oraV o' F1 f1 F2 f2), .int .i64 0], .string r, (oraV o' F1 f1 F2 f2), .int .i64 0, x68, x69, x70, x71, x72, x73, x74, x75, x76, x77, x78, x79, x80, x81, x82, x83, x84, x85, x86, x87, x88, x89, x90, x91, x92, x93, x94, x95, x96, x97, x98, x99, x100, x101, x102, x103, x104, x105, x106, x107, x108, x109, x110, x111, x112, x113, x114, x115, x116, x117, x118, x119, x120, x121, x122, x123, x124, x125, x126, x127, x128, x129, x130, x131, x132, x133, x134, x135, x136, x137, x138, x139, x140, x141, x142, x143, x144, x145, x146, x147, x148, x149, x150, x151], defers := [] } W := by
    intro W F1 f1 F2 f2 DD hB hDD iE nI o1 o2 l1 l2 d1 d2
    refine wpAnyH_done (by kernel_rfl) ?_ _
    subst hQ
    exact ⟨rfl, rfl, F1, f1, F2, f2, DD, rfl, hB, hDD, iE, nI, o1, o2, l1, l2, d1, d2⟩
  have ST2_3_8 : ∀ (W : World) (F1 : Option Addr) (f1 : Nat) (F2 : Option Addr) (f2 : Nat) (DD : Nat), Below W0.heap.size W0 W → W0.heap.size ≤ DD → Is W DD 31 zer9 → InI W o'.d F1 f1 F2 f2 → Own8 W0 W A1 F1 → Own8 W0 W A2 F2 → (∀ p, F1 = some p → p.block < W.heap.size) → (∀ p, F2 = some p → p.block < W.heap.size) → (∀ p, F1 = some p → (some DD : Option Nat) ≠ some p.block) → (∀ p, F2 = some p → (some DD : Option Nat) ≠ some p.block) → wpAnyH Tryz.prog .any (opsOf Tryz.f9 8) Q (fun W => Below W0.heap.size W0 W) 2 #[true, true, true, true, true, true, true, true, true, true, false, false] { tmps := #[x0, x1, x2, x3, x4, x5, x6, x7, x8, x9, .string s, .pointer (some ⟨DO, 0, none⟩), x12, x13, x14, x15, .string r, .pointer (some ⟨DD, 0, none⟩), x18, x19, x20, x21, x22, x23, x24, x25, x26, x27, x28, x29, x30, x31, x32, x33, x34, x35, x36, x37, x38, x39, x40, x41, x42, x43, x44, x45, x46, x47, x48, x49, x50, x51, x52, x53, x54, x55, x56, x57, x58, x59, .tuple #[.string r, (oraV o' F1 f1 F2 f2), .int .i64 0], .agg (oraL o A1 c1 A2 c2), .string s, .string tx, .tuple #[.string r, (oraV o' F1 f1 F2 f2), .int .i64 0], .string r, (oraV o' F1 f1 F2 f2), .int .i64 0, x68, x69, x70, x71, x72, x73, x74, x75, x76, x77, x78, x79, x80, x81, x82, x83, x84, x85, x86, x87, x88, x89, x90, x91, x92, x93, x94, x95, x96, x97, x98, x99, x100, x101, x102, x103, x104, x105, x106, x107, x108, x109, x110, x111, x112, x113, x114, x115, x116, x117, x118, x119, x120, x121, x122, x123, x124, x125, x126, x127, x128, x129, x130, x131, x132, x133, x134, x135, x136, x137, x138, x139, x140, x141, x142, x143, x144, x145, x146, x147, x148, x149, x150, x151], defers := [] } W := by
    intro W F1 f1 F2 f2 DD hB hDD iD nI o1 o2 l1 l2 d1 d2
    refine wpAnyH_ready (by kernel_rfl) (by simp) (AllReadyH.cons (i := 10) (at_nth rfl) ?_ (AllReadyH.nil))
    · have kB := belowRow hB hDD (oraL o' F1 f1 F2 f2)
      refine arm9_skip (by kernel_rfl) (run_row9 (ty := 31) (x := .tmp 17) (y := .tmp 66) (cs := (oraL o' F1 f1 F2 f2)) (by kernel_rfl) (by kernel_rfl) (by kernel_rfl) iD infoOra rfl (oraL_one9 _ _ _ _ _)) kB ?_
      try simp only [Act.put]
      have iE := iD.row (oraL o' F1 f1 F2 f2)
      have hsz : (W.setRow DD (oraL o' F1 f1 F2 f2)).heap.size = W.heap.size := by simp
      replace nI := nI.apart (grownRowG _ _ (oraL o' F1 f1 F2 f2)) d1 d2
      replace o1 := o1.wide9 (Nat.le_refl _) (Nat.le_of_eq hsz.symm)
      replace o2 := o2.wide9 (Nat.le_refl _) (Nat.le_of_eq hsz.symm)
      replace l1 : ∀ p, F1 = some p → p.block < (W.setRow DD (oraL o' F1 f1 F2 f2)).heap.size := fun p hp => by rw [hsz]; exact l1 p hp
      replace l2 : ∀ p, F2 = some p → p.block < (W.setRow DD (oraL o' F1 f1 F2 f2)).heap.size := fun p hp => by rw [hsz]; exact l2 p hp
      replace hB := kB
      refine wpAnyH_pure (i := 11) (v := .int .i64 0) (at_nth rfl) (by kernel_rfl) (by kernel_rfl) (by kernel_rfl) (fun _ _ _ h => absurd h (HQN _ _ _)) (by kernel_rfl) (fun w hSw => by kernel_rfl) hB ?_
      simp only [Act.put, List.setIfInBounds_toArray, List.set_cons_succ, List.set_cons_zero]
      exact ST2_3_8_10 _ _ _ _ _ _ hB hDD iE nI o1 o2 l1 l2 d1 d2
  have ST2_3 : ∀ (W : World) (F1 : Option Addr) (f1 : Nat) (F2 : Option Addr) (f2 : Nat), Below W0.heap.size W0 W → InI W o'.d F1 f1 F2 f2 → Own8 W0 W A1 F1 → Own8 W0 W A2 F2 → (∀ p, F1 = some p → p.block < W.heap.size) → (∀ p, F2 = some p → p.block < W.heap.size) → wpAnyH Tryz.prog .any (opsOf Tryz.f9 8) Q (fun W => Below W0.heap.size W0 W) 4 #[true, true, true, true, true, true, true, true, false, false, false, false] { tmps := #[x0, x1, x2, x3, x4, x5, x6, x7, x8, x9, .string s, .pointer (some ⟨DO, 0, none⟩), x12, x13, x14, x15, x16, x17, x18, x19, x20, x21, x22, x23, x24, x25, x26, x27, x28, x29, x30, x31, x32, x33, x34, x35, x36, x37, x38, x39, x40, x41, x42, x43, x44, x45, x46, x47, x48, x49, x50, x51, x52, x53, x54, x55, x56, x57, x58, x59, .tuple #[.string r, (oraV o' F1 f1 F2 f2), .int .i64 0], .agg (oraL o A1 c1 A2 c2), .string s, .string tx, .tuple #[.string r, (oraV o' F1 f1 F2 f2), .int .i64 0], .string r, (oraV o' F1 f1 F2 f2), .int .i64 0, x68, x69, x70, x71, x72, x73, x74, x75, x76, x77, x78, x79, x80, x81, x82, x83, x84, x85, x86, x87, x88, x89, x90, x91, x92, x93, x94, x95, x96, x97, x98, x99, x100, x101, x102, x103, x104, x105, x106, x107, x108, x109, x110, x111, x112, x113, x114, x115, x116, x117, x118, x119, x120, x121, x122, x123, x124, x125, x126, x127, x128, x129, x130, x131, x132, x133, x134, x135, x136, x137, x138, x139, x140, x141, x142, x143, x144, x145, x146, x147, x148, x149, x150, x151], defers := [] } W := by
    intro W F1 f1 F2 f2 hB nI o1 o2 l1 l2
    refine wpAnyH_ready (by kernel_rfl) (by simp) (AllReadyH.cons (i := 8) (at_nth rfl) ?_ (AllReadyH.nil))
    · have hb := (Below.refl W.heap.size W).alloc (Nat.le_refl _) (.cells zer9 31)
      have iD := Is.new W 31 zer9
      have hDD : W0.heap.size ≤ W.heap.size := hB.size
      replace hB := hB.alloc hB.size (.cells zer9 31)
      refine arm9_value (by kernel_rfl) (run_allocO9 _ (by kernel_rfl)) hB ?_
      simp only [Act.put, List.setIfInBounds_toArray, List.set_cons_succ, List.set_cons_zero]
      have d1 : ∀ p, F1 = some p → (some W.heap.size : Option Nat) ≠ some p.block := fun p hp e => by have := l1 p hp; have := Option.some.inj e; omega
      have d2 : ∀ p, F2 = some p → (some W.heap.size : Option Nat) ≠ some p.block := fun p hp e => by have := l2 p hp; have := Option.some.inj e; omega
      have hsz := hb.size
      replace nI := nI.keep hb
      replace o1 := o1.wide9 (Nat.le_refl _) hsz
      replace o2 := o2.wide9 (Nat.le_refl _) hsz
      replace l1 : ∀ p, F1 = some p → p.block < (W.alloc (.cells zer9 31)).heap.size := fun p hp => Nat.lt_of_lt_of_le (l1 p hp) hsz
      replace l2 : ∀ p, F2 = some p → p.block < (W.alloc (.cells zer9 31)).heap.size := fun p hp => Nat.lt_of_lt_of_le (l2 p hp) hsz
      refine wpAnyH_pure (i := 9) (v := .string r) (at_nth rfl) (by kernel_rfl) (by kernel_rfl) (by kernel_rfl) (fun _ _ _ h => absurd h (HQN _ _ _)) (by kernel_rfl) (fun w hSw => by kernel_rfl) hB ?_
      simp only [Act.put, List.setIfInBounds_toArray, List.set_cons_succ, List.set_cons_zero]
      exact ST2_3_8 _ _ _ _ _ _ hB hDD iD nI o1 o2 l1 l2 d1 d2
  have ST2_8 : ∀ (W : World) (DD : Nat), Below W0.heap.size W0 W → W0.heap.size ≤ DD → Is W DD 31 zer9 → wpAnyH Tryz.prog .any (opsOf Tryz.f9 8) Q (fun W => Below W0.heap.size W0 W) 8 #[true, true, true, false, false, false, false, false, true, false, false, false] { tmps := #[x0, x1, x2, x3, x4, x5, x6, x7, x8, x9, .string s, .pointer (some ⟨DO, 0, none⟩), x12, x13, x14, x15, x16, .pointer (some ⟨DD, 0, none⟩), x18, x19, x20, x21, x22, x23, x24, x25, x26, x27, x28, x29, x30, x31, x32, x33, x34, x35, x36, x37, x38, x39, x40, x41, x42, x43, x44, x45, x46, x47, x48, x49, x50, x51, x52, x53, x54, x55, x56, x57, x58, x59, x60, .agg (oraL o A1 c1 A2 c2), .string s, .string tx, x64, x65, x66, x67, x68, x69, x70, x71, x72, x73, x74, x75, x76, x77, x78, x79, x80, x81, x82, x83, x84, x85, x86, x87, x88, x89, x90, x91, x92, x93, x94, x95, x96, x97, x98, x99, x100, x101, x102, x103, x104, x105, x106, x107, x108, x109, x110, x111, x112, x113, x114, x115, x116, x117, x118, x119, x120, x121, x122, x123, x124, x125, x126, x127, x128, x129, x130, x131, x132, x133, x134, x135, x136, x137, x138, x139, x140, x141, x142, x143, x144, x145, x146, x147, x148, x149, x150, x151], defers := [] } W := by
    intro W DD hB hDD iD
    refine wpAnyH_ready (by kernel_rfl) (by simp) (AllReadyH.cons (i := 3) (at_nth rfl) ?_ (AllReadyH.nil))
    · have h4 := hB.size
      have hlD := iD.lt
      refine arm9_call (by kernel_rfl) (fun wy => by kernel_rfl) ((CL.out _ hB).mono ?_)
      rintro e Wn ⟨F1, f1, F2, f2, rfl, nI, hb, p1, p2⟩
      replace hB := hB.trans (hb.mono hB.size)
      replace iD := iD.below hb iD.lt
      have l1 := p1.lt9 (fun p hp => Nat.lt_of_lt_of_le (hA p hp) h4) hb.size
      have l2 := p2.lt9 (fun p hp => Nat.lt_of_lt_of_le (hA' p hp) h4) hb.size
      have d1 := p1.apart9 hA hDD hlD
      have d2 := p2.apart9 hA' hDD hlD
      have o1 := p1.wide9 h4 (Nat.le_refl Wn.heap.size)
      have o2 := p2.wide9 h4 (Nat.le_refl Wn.heap.size)
      refine ⟨_, rfl, hB, ?_⟩
      simp only [Act.put, List.setIfInBounds_toArray, List.set_cons_succ, List.set_cons_zero]
      refine wpAnyH_pure (i := 4) (v := .tuple #[.string r, (oraV o' F1 f1 F2 f2), .int .i64 0]) (at_nth rfl) (by kernel_rfl) (by kernel_rfl) (by kernel_rfl) (fun _ _ _ h => absurd h (HQN _ _ _)) (by kernel_rfl) (fun w hSw => by kernel_rfl) hB ?_
      simp only [Act.put, List.setIfInBounds_toArray, List.set_cons_succ, List.set_cons_zero]
      refine wpAnyH_pure (i := 5) (v := .string r) (at_nth rfl) (by kernel_rfl) (by kernel_rfl) (by kernel_rfl) (fun _ _ _ h => absurd h (HQN _ _ _)) (by kernel_rfl) (fun w hSw => by kernel_rfl) hB ?_
      simp only [Act.put, List.setIfInBounds_toArray, List.set_cons_succ, List.set_cons_zero]
      refine wpAnyH_pure (i := 6) (v := (oraV o' F1 f1 F2 f2)) (at_nth rfl) (by kernel_rfl) (by kernel_rfl) (by kernel_rfl) (fun _ _ _ h => absurd h (HQN _ _ _)) (by kernel_rfl) (fun w hSw => by kernel_rfl) hB ?_
      simp only [Act.put, List.setIfInBounds_toArray, List.set_cons_succ, List.set_cons_zero]
      refine wpAnyH_pure (i := 7) (v := .int .i64 0) (at_nth rfl) (by kernel_rfl) (by kernel_rfl) (by kernel_rfl) (fun _ _ _ h => absurd h (HQN _ _ _)) (by kernel_rfl) (fun w hSw => by kernel_rfl) hB ?_
      simp only [Act.put, List.setIfInBounds_toArray, List.set_cons_succ, List.set_cons_zero]
      refine wpAnyH_pure (i := 9) (v := .string r) (at_nth rfl) (by kernel_rfl) (by kernel_rfl) (by kernel_rfl) (fun _ _ _ h => absurd h (HQN _ _ _)) (by kernel_rfl) (fun w hSw => by kernel_rfl) hB ?_
      simp only [Act.put, List.setIfInBounds_toArray, List.set_cons_succ, List.set_cons_zero]
      exact ST2_3_8 _ _ _ _ _ _ hB hDD iD nI o1 o2 l1 l2 d1 d2
  have ST2 : ∀ (W : World), Below W0.heap.size W0 W → wpAnyH Tryz.prog .any (opsOf Tryz.f9 8) Q (fun W => Below W0.heap.size W0 W) 9 #[true, true, true, false, false, false, false, false, false, false, false, false] { tmps := #[x0, x1, x2, x3, x4, x5, x6, x7, x8, x9, .string s, .pointer (some ⟨DO, 0, none⟩), x12, x13, x14, x15, x16, x17, x18, x19, x20, x21, x22, x23, x24, x25, x26, x27, x28, x29, x30, x31, x32, x33, x34, x35, x36, x37, x38, x39, x40, x41, x42, x43, x44, x45, x46, x47, x48, x49, x50, x51, x52, x53, x54, x55, x56, x57, x58, x59, x60, .agg (oraL o A1 c1 A2 c2), .string s, .string tx, x64, x65, x66, x67, x68, x69, x70, x71, x72, x73, x74, x75, x76, x77, x78, x79, x80, x81, x82, x83, x84, x85, x86, x87, x88, x89, x90, x91, x92, x93, x94, x95, x96, x97, x98, x99, x100, x101, x102, x103, x104, x105, x106, x107, x108, x109, x110, x111, x112, x113, x114, x115, x116, x117, x118, x119, x120, x121, x122, x123, x124, x125, x126, x127, x128, x129, x130, x131, x132, x133, x134, x135, x136, x137, x138, x139, x140, x141, x142, x143, x144, x145, x146, x147, x148, x149, x150, x151], defers := [] } W := by
    intro W hB
    refine wpAnyH_ready (by kernel_rfl) (by simp) (AllReadyH.cons (i := 3) (at_nth rfl) ?_ (AllReadyH.cons (i := 8) (at_nth rfl) ?_ (AllReadyH.nil)))
    · have h4 := hB.size
      refine arm9_call (by kernel_rfl) (fun wy => by kernel_rfl) ((CL.out _ hB).mono ?_)
      rintro e Wn ⟨F1, f1, F2, f2, rfl, nI, hb, p1, p2⟩
      replace hB := hB.trans (hb.mono hB.size)
      have l1 := p1.lt9 (fun p hp => Nat.lt_of_lt_of_le (hA p hp) h4) hb.size
      have l2 := p2.lt9 (fun p hp => Nat.lt_of_lt_of_le (hA' p hp) h4) hb.size
      have o1 := p1.wide9 h4 (Nat.le_refl Wn.heap.size)
      have o2 := p2.wide9 h4 (Nat.le_refl Wn.heap.size)
      refine ⟨_, rfl, hB, ?_⟩
      simp only [Act.put, List.setIfInBounds_toArray, List.set_cons_succ, List.set_cons_zero]
      refine wpAnyH_pure (i := 4) (v := .tuple #[.string r, (oraV o' F1 f1 F2 f2), .int .i64 0]) (at_nth rfl) (by kernel_rfl) (by kernel_rfl) (by kernel_rfl) (fun _ _ _ h => absurd h (HQN _ _ _)) (by kernel_rfl) (fun w hSw => by kernel_rfl) hB ?_
      simp only [Act.put, List.setIfInBounds_toArray, List.set_cons_succ, List.set_cons_zero]
      refine wpAnyH_pure (i := 5) (v := .string r) (at_nth rfl) (by kernel_rfl) (by kernel_rfl) (by kernel_rfl) (fun _ _ _ h => absurd h (HQN _ _ _)) (by kernel_rfl) (fun w hSw => by kernel_rfl) hB ?_
      simp only [Act.put, List.setIfInBounds_toArray, List.set_cons_succ, List.set_cons_zero]
      refine wpAnyH_pure (i := 6) (v := (oraV o' F1 f1 F2 f2)) (at_nth rfl) (by kernel_rfl) (by kernel_rfl) (by kernel_rfl) (fun _ _ _ h => absurd h (HQN _ _ _)) (by kernel_rfl) (fun w hSw => by kernel_rfl) hB ?_
      simp only [Act.put, List.setIfInBounds_toArray, List.set_cons_succ, List.set_cons_zero]
      refine wpAnyH_pure (i := 7) (v := .int .i64 0) (at_nth rfl) (by kernel_rfl) (by kernel_rfl) (by kernel_rfl) (fun _ _ _ h => absurd h (HQN _ _ _)) (by kernel_rfl) (fun w hSw => by kernel_rfl) hB ?_
      simp only [Act.put, List.setIfInBounds_toArray, List.set_cons_succ, List.set_cons_zero]
      exact ST2_3 _ _ _ _ _ hB nI o1 o2 l1 l2
    · have hb := (Below.refl W.heap.size W).alloc (Nat.le_refl _) (.cells zer9 31)
      have iD := Is.new W 31 zer9
      have hDD : W0.heap.size ≤ W.heap.size := hB.size
      replace hB := hB.alloc hB.size (.cells zer9 31)
      refine arm9_value (by kernel_rfl) (run_allocO9 _ (by kernel_rfl)) hB ?_
      simp only [Act.put, List.setIfInBounds_toArray, List.set_cons_succ, List.set_cons_zero]
      exact ST2_8 _ _ hB hDD iD
  have ST8 : ∀ (W : World) (DD : Nat), Below W0.heap.size W0 W → W0.heap.size ≤ DD → Is W DD 31 zer9 → wpAnyH Tryz.prog .any (opsOf Tryz.f9 8) Q (fun W => Below W0.heap.size W0 W) 9 #[true, true, false, false, false, false, false, false, true, false, false, false] { tmps := #[x0, x1, x2, x3, x4, x5, x6, x7, x8, x9, .string s, .pointer (some ⟨DO, 0, none⟩), x12, x13, x14, x15, x16, .pointer (some ⟨DD, 0, none⟩), x18, x19, x20, x21, x22, x23, x24, x25, x26, x27, x28, x29, x30, x31, x32, x33, x34, x35, x36, x37, x38, x39, x40, x41, x42, x43, x44, x45, x46, x47, x48, x49, x50, x51, x52, x53, x54, x55, x56, x57, x58, x59, x60, .agg (oraL o A1 c1 A2 c2), .string s, x63, x64, x65, x66, x67, x68, x69, x70, x71, x72, x73, x74, x75, x76, x77, x78, x79, x80, x81, x82, x83, x84, x85, x86, x87, x88, x89, x90, x91, x92, x93, x94, x95, x96, x97, x98, x99, x100, x101, x102, x103, x104, x105, x106, x107, x108, x109, x110, x111, x112, x113, x114, x115, x116, x117, x118, x119, x120, x121, x122, x123, x124, x125, x126, x127, x128, x129, x130, x131, x132, x133, x134, x135, x136, x137, x138, x139, x140, x141, x142, x143, x144, x145, x146, x147, x148, x149, x150, x151], defers := [] } W := by
    intro W DD hB hDD iD
    refine wpAnyH_ready (by kernel_rfl) (by simp) (AllReadyH.cons (i := 2) (at_nth rfl) ?_ (AllReadyH.nil))
    · refine arm9_call (by kernel_rfl) (fun wy => by kernel_rfl) ((TX.out _).mono ?_)
      rintro e Wn ⟨rfl, hb⟩
      replace hB := hB.trans (hb.mono hB.size)
      replace iD := iD.below hb iD.lt
      refine ⟨_, rfl, hB, ?_⟩
      simp only [Act.put, List.setIfInBounds_toArray, List.set_cons_succ, List.set_cons_zero]
      exact ST2_8 _ _ hB hDD iD
  have ST : ∀ (W : World), Below W0.heap.size W0 W → wpAnyH Tryz.prog .any (opsOf Tryz.f9 8) Q (fun W => Below W0.heap.size W0 W) 10 #[true, true, false, false, false, false, false, false, false, false, false, false] { tmps := #[x0, x1, x2, x3, x4, x5, x6, x7, x8, x9, .string s, .pointer (some ⟨DO, 0, none⟩), x12, x13, x14, x15, x16, x17, x18, x19, x20, x21, x22, x23, x24, x25, x26, x27, x28, x29, x30, x31, x32, x33, x34, x35, x36, x37, x38, x39, x40, x41, x42, x43, x44, x45, x46, x47, x48, x49, x50, x51, x52, x53, x54, x55, x56, x57, x58, x59, x60, .agg (oraL o A1 c1 A2 c2), .string s, x63, x64, x65, x66, x67, x68, x69, x70, x71, x72, x73, x74, x75, x76, x77, x78, x79, x80, x81, x82, x83, x84, x85, x86, x87, x88, x89, x90, x91, x92, x93, x94, x95, x96, x97, x98, x99, x100, x101, x102, x103, x104, x105, x106, x107, x108, x109, x110, x111, x112, x113, x114, x115, x116, x117, x118, x119, x120, x121, x122, x123, x124, x125, x126, x127, x128, x129, x130, x131, x132, x133, x134, x135, x136, x137, x138, x139, x140, x141, x142, x143, x144, x145, x146, x147, x148, x149, x150, x151], defers := [] } W := by
    intro W hB
    refine wpAnyH_ready (by kernel_rfl) (by simp) (AllReadyH.cons (i := 2) (at_nth rfl) ?_ (AllReadyH.cons (i := 8) (at_nth rfl) ?_ (AllReadyH.nil)))
    · refine arm9_call (by kernel_rfl) (fun wy => by kernel_rfl) ((TX.out _).mono ?_)
      rintro e Wn ⟨rfl, hb⟩
      replace hB := hB.trans (hb.mono hB.size)
      refine ⟨_, rfl, hB, ?_⟩
      simp only [Act.put, List.setIfInBounds_toArray, List.set_cons_succ, List.set_cons_zero]
      exact ST2 _ hB
    · have hb := (Below.refl W.heap.size W).alloc (Nat.le_refl _) (.cells zer9 31)
      have iD := Is.new W 31 zer9
      have hDD : W0.heap.size ≤ W.heap.size := hB.size
      replace hB := hB.alloc hB.size (.cells zer9 31)
      refine arm9_value (by kernel_rfl) (run_allocO9 _ (by kernel_rfl)) hB ?_
      simp only [Act.put, List.setIfInBounds_toArray, List.set_cons_succ, List.set_cons_zero]
      exact ST8 _ _ hB hDD iD
  refine wp_region_held_drew (S := fun W => Below W0.heap.size W0 W) (by kernel_rfl) hB (fun hS => ?_)
  change wpAnyH _ _ (opsOf Tryz.f9 8) _ _ 12 (Array.replicate 12 false) _ (W0.drewN 1)
  clear hS
  replace hB : Below W0.heap.size W0 (W0.drewN 1) := belowN (Below.refl _ _) 1
  refine wpAnyH_pure (i := 0) (v := .agg (oraL o A1 c1 A2 c2)) (at_nth rfl) (by kernel_rfl) (by kernel_rfl) (by kernel_rfl) (fun _ _ _ h => absurd h (HQN _ _ _)) (by kernel_rfl) (fun w hSw => by exact exec_load (x := .tmp 11) (by kernel_rfl) (by kernel_rfl) (run_loadVar_row _ _ 31 31 _ (0, 0) _ (HO.out _ hSw) Tryz.underlying31 rfl infoOra)) hB ?_
  simp only [Act.put, List.setIfInBounds_toArray, List.set_cons_succ, List.set_cons_zero]
  refine wpAnyH_pure (i := 1) (v := .string s) (at_nth rfl) (by kernel_rfl) (by kernel_rfl) (by kernel_rfl) (fun _ _ _ h => absurd h (HQN _ _ _)) (by kernel_rfl) (fun w hSw => by kernel_rfl) hB ?_
  simp only [Act.put, List.setIfInBounds_toArray, List.set_cons_succ, List.set_cons_zero]
  exact ST _ hB
end Go.Proofs.YtfgdcpolfekgjaaGreat
namespace Go.Proofs.YtfgdcpolfekgjaaGreat
open Go.RowKit

def awA9 : ByteArray := ⟨#[97, 98]⟩
def awC9 : ByteArray := ⟨#[97, 98, 99]⟩
def awX9 : ByteArray := ⟨#[120]⟩
def awS9 : ByteArray := ⟨#[97, 98, 99, 100, 101, 102, 103, 104, 105, 106, 107, 108, 109, 110, 111, 112]⟩
def awB9 : ByteArray := ⟨#[97, 98, 99, 100, 101, 102, 103, 104, 105, 106, 107, 108, 109, 110, 111, 112, 113]⟩
def awO9 : Ora := ⟨1, nul8 32, ⟨⟨#[]⟩, 0, [], [], false⟩⟩
def awD9 : Ora := ⟨2, nul8 32, ⟨awB9, 0, [], [], false⟩⟩
def awQ9 : Ora := ⟨2, nul8 32, ⟨awB9, 16, [(ask9 awA9 0 0, awS9)], [], false⟩⟩
theorem aw9_ask : askV9 awA9 1 258 = (⟨#[2, 97, 98, 0, 0, 0, 1, 0, 0, 1, 2]⟩, 0) := by kernel_rfl
theorem aw9_askN : askV9 awA9 (-1) 0 = (⟨#[]⟩, 1) := by kernel_rfl
section
variable {T : ByteArray → ByteArray → ByteArray} {C : ByteArray → ByteArray → ByteArray → ByteArray} {U : ByteArray → ByteArray → ByteArray → ByteArray × Int}
theorem aw9_labD : labV9 T awD9 awA9 0 0 = (awS9, awQ9, 0) := by kernel_rfl
theorem aw9_labQ : labV9 T awQ9 awC9 0 0 = (⟨#[]⟩, awQ9, 12) := by kernel_rfl
theorem awO9_right : Rit9 awO9 := (right9_iff _).1 (by kernel_rfl)
theorem aw9_right : right9 awO9 = true := by kernel_rfl
/-- by a key: a label, a cell, what is in it. -/
theorem aw9_real (hT : ∀ k i, (T k i).size = 16) (hC : ∀ k l t, (C k l t).size = t.size + 16) (hU : ∀ key l t, U key l (C key l t) = (t, 0)) :
    ∃ s p c r, labV9 T awO9 awA9 0 0 = (s, p, 0) ∧ s.size = 16 ∧ celV9 C p s (text8 1) = (c, r, 0) ∧ c.size = 40 ∧ opnV9 U r s c = (text8 1, 0) ∧ opnV9 U r s awX9 = (⟨#[]⟩, 11) := by
  have h0 : Rea9 T C awO9 0 0 := ⟨awO9_right, rfl, Key9.empty _ _ _, Nat.le_refl _, Nat.le_refl _⟩
  obtain ⟨d1, e1, h1, _⟩ := h0.lab (by omega) hT (w := awA9) (e := 0) (c := 0) (by kernel_rfl)
  obtain ⟨d2, e2, h2, _⟩ := h1.cel (by omega) hC (l := T awO9.key (ask9 awA9 0 0)) (t := text8 1) (hT _ _) (text8_size 1)
  refine ⟨_, _, _, _, e1, hT _ _, e2, ?_, ?_, ?_⟩
  · rw [hC, text8_size]
  · rw [opnV9, if_pos ((right9_iff _).2 h2.right), hT, hC, text8_size, if_pos (by decide), h2.real, if_pos rfl]
    exact hU _ _ _
  · rw [opnV9, if_pos ((right9_iff _).2 h2.right), if_neg (by rw [show decide (awX9.size = 40) = false from rfl, Bool.and_false]; exact Bool.false_ne_true)]
end
end Go.Proofs.YtfgdcpolfekgjaaGreat
namespace Go.Proofs.YtfgdcpolfekgjaaGreat
open Go.RowKit Go.Shelf

theorem aw9_rightD : right9 awD9 = true := by kernel_rfl
theorem aw9_rightQ : right9 awQ9 = true := by kernel_rfl
section
variable [Tabs]
set_option maxRecDepth 100000 in
set_option maxHeartbeats 8000000 in
theorem awake9_any (w : World) (hT : Tab w) :
    Calls Tryz.prog 9 #[] w fun e w' => e = .returned (.bool true) ∧ Below w.heap.size w w' := by
  obtain ⟨s, p, c, r, h1, hs, h2, hc, h3, h4⟩ := aw9_real (T := T9) (C := C9) (U := U9) T9_size C9_size U9_back
  have hp : right9 p = true := (right9_iff _).2 (by have := labV9_right (T := T9) T9_size awO9_right awA9 0 0; rw [h1] at this; exact this)
  have hr : right9 r = true := (right9_iff _).2 (by have := celV9_right (C := C9) C9_size ((right9_iff _).1 hp) s (text8 1); rw [h2] at this; exact this)
  have AC1 := fun W => oask_any awA9 1 258 W
  rw [aw9_ask] at AC1
  have AC2 := fun W => oask_any awA9 (-1) 0 W
  rw [aw9_askN] at AC2
  have NC1 : ∀ W, Calls Tryz.prog 12 #[.int .i64 1, .string (nul8 32), .agg #[.string ⟨#[]⟩, .int .i64 0]] W fun e w' => e = .returned (.tuple #[oraV awO9 none 0 none 0, .int .i64 0]) ∧ Below W.heap.size W w' := fun W => onew_ok 1 (nul8 32) ⟨#[]⟩ 0 W aw9_right
  have NC2 : ∀ W, Calls Tryz.prog 12 #[.int .i64 2, .string (nul8 32), .agg #[.string awB9, .int .i64 0]] W fun e w' => e = .returned (.tuple #[oraV awD9 none 0 none 0, .int .i64 0]) ∧ Below W.heap.size W w' := fun W => onew_ok 2 (nul8 32) awB9 0 W aw9_rightD
  have LC1 := fun W A c A' c' (hb : Below w.heap.size w W) (h : InO W awO9 A c A' c') => olabel9 awO9 A c A' c' awA9 0 0 W (hT.below hb hT.two) h aw9_right (by kernel_rfl)
  rw [h1] at LC1
  have LC2 := fun W A c A' c' (hb : Below w.heap.size w W) (h : InO W awD9 A c A' c') => olabel9 awD9 A c A' c' awA9 0 0 W (hT.below hb hT.two) h aw9_rightD (by kernel_rfl)
  rw [aw9_labD] at LC2
  have LC3 := fun W A c A' c' (hb : Below w.heap.size w W) (h : InO W awQ9 A c A' c') => olabel9 awQ9 A c A' c' awC9 0 0 W (hT.below hb hT.two) h aw9_rightQ (by kernel_rfl)
  rw [aw9_labQ] at LC3
  have CC := fun A c A' c' W (hb : Below w.heap.size w W) (h : InI W p.d A c A' c') hA hA' => ocell_ok p A c A' c' s (text8 1) W hA hA' (hT.below hb hT.two) h hp hs (text8_size 1)
  rw [h2] at CC
  have OC1 := fun W A c1 A' c' (hb : Below w.heap.size w W) (h : InO W r A c1 A' c') => oopen_ok r A c1 A' c' s c W (hT.below hb hT.two) h.i hr hs hc
  rw [h3] at OC1
  have OC2 := fun W A c1 A' c' (h : InO W r A c1 A' c') => oopen_short r A c1 A' c' s awX9 W h.i hr hs (by decide)
  have TXC := fun W => qtext_any 1 W (by omega)
  have RC := fun W A c A' c' (h : InO W awO9 A c A' c') => oright_any awO9 A c A' c' W h.i
  rw [aw9_right] at RC
  have EO : Hid (∀ W, InO W awO9 none 0 none 0) := Lib.hid (fun W => InO.empty W 1 (nul8 32) ⟨#[]⟩ 0 false)
  have ED : Hid (∀ W, InO W awD9 none 0 none 0) := Lib.hid (fun W => InO.empty W 2 (nul8 32) awB9 0 false)
  have hs2 : (s.size : Int) = 16 := by omega
  have hc2 : (c.size : Int) = 40 := by omega
  clear h1 h2 h3 h4 hp hr hs hc hT
  generalize awO9 = oO at *
  generalize awD9 = oD at *
  generalize awQ9 = oQ at *
  generalize text8 1 = tx at *
  simp only [awS9] at LC2
  simp only [awB9] at NC2
  replace AC1 := Lib.hid AC1
  replace AC2 := Lib.hid AC2
  replace NC1 := Lib.hid NC1
  replace NC2 := Lib.hid NC2
  replace LC1 := Lib.hid LC1
  replace LC2 := Lib.hid LC2
  replace LC3 := Lib.hid LC3
  replace CC := Lib.hid CC
  replace OC1 := Lib.hid OC1
  replace OC2 := Lib.hid OC2
  replace TXC := Lib.hid TXC
  replace RC := Lib.hid RC
  obtain ⟨V1, hV1⟩ : ∃ W, W = w.alloc (.cells (nulC8 32) 5) := ⟨_, rfl⟩
  have hB : Below w.heap.size w V1 := by rw [hV1]; exact (Below.refl _ _).alloc (Nat.le_refl _) _
  have mk : (Instr.makeSlice 63 (.int .i64 32) (.int .i64 32)).run Tryz.prog w = .ok (.slice (some ⟨w.heap.size, 0, none⟩) 32 32) (w.alloc (.cells (nulC8 32) 5)) := run_make8 w 32 (by omega)
  have cv : (convert 63 9 (.slice (some ⟨w.heap.size, 0, none⟩) 32 32)).run Tryz.prog (w.alloc (.cells (nulC8 32) 5)) = .ok (.string (nul8 32)) (w.alloc (.cells (nulC8 32) 5)) := run_conv8 (Is.new _ _ _)
  generalize nul8 32 = KK at *
  go_enter Tryz.func9, Tryz.ntmps9
  go_wp2_with fail
  rw [← hV1]
  clear hV1 mk cv
  refine (AC1.out _).mono ?_
  rintro e V2 ⟨rfl, hb⟩
  replace hB := hB.trans (hb.mono hB.size)
  clear hb
  go_wp2_with fail
  refine (AC2.out _).mono ?_
  rintro e V3 ⟨rfl, hb⟩
  replace hB := hB.trans (hb.mono hB.size)
  clear hb
  go_wp2_with fail
  refine (NC1.out _).mono ?_
  rintro e V4 ⟨rfl, hb⟩
  replace hB := hB.trans (hb.mono hB.size)
  clear hb
  have iO : Is (V4.alloc (.cells (oraL oO none 0 none 0) 31)) V4.heap.size 31 (oraL oO none 0 none 0) := Is.new _ _ _
  have hb := (Below.refl V4.heap.size V4).alloc (Nat.le_refl _) (.cells (oraL oO none 0 none 0) 31)
  have nO := (EO.out _).keep hb
  replace hB := hB.alloc hB.size (.cells (oraL oO none 0 none 0) 31)
  clear hb
  go_wp2_with (first | (refine wpList_load_rowG (by kernel_rfl) 31 _ rfl V4.heap.size rfl 31 _ iO Tryz.underlying31 rfl infoOra ?_))
  generalize V4.alloc (.cells (oraL oO none 0 none 0) 31) = V5 at *
  generalize V4.heap.size = DO at *
  refine (NC2.out _).mono ?_
  rintro e V6 ⟨rfl, hb⟩
  replace iO := iO.below hb iO.lt
  replace nO := nO.keep hb
  replace hB := hB.trans (hb.mono hB.size)
  clear hb
  have iD : Is (V6.alloc (.cells (oraL oD none 0 none 0) 31)) V6.heap.size 31 (oraL oD none 0 none 0) := Is.new _ _ _
  have hb := (Below.refl V6.heap.size V6).alloc (Nat.le_refl _) (.cells (oraL oD none 0 none 0) 31)
  replace iO := iO.alloc (.cells (oraL oD none 0 none 0) 31)
  replace nO := nO.keep hb
  have nD := (ED.out _).keep hb
  replace hB := hB.alloc hB.size (.cells (oraL oD none 0 none 0) 31)
  clear hb
  go_wp2_with (first | (refine wpList_load_rowG (by kernel_rfl) 31 _ rfl DO rfl 31 _ iO Tryz.underlying31 rfl infoOra ?_) | (refine wpList_load_rowG (by kernel_rfl) 31 _ rfl V6.heap.size rfl 31 _ iD Tryz.underlying31 rfl infoOra ?_))
  generalize V6.alloc (.cells (oraL oD none 0 none 0) 31) = V7 at *
  generalize V6.heap.size = DD at *
  refine (LC1.out _ _ _ _ _ hB nO).mono ?_
  rintro e V8 ⟨A1, c1, A2, c2, rfl, mP, hb⟩
  replace iO := iO.below hb iO.lt
  replace nO := nO.keep hb
  replace iD := iD.below hb iD.lt
  replace nD := nD.keep hb
  replace hB := hB.trans (hb.mono hB.size)
  clear hb
  have iP : Is (V8.alloc (.cells (oraL p A1 c1 A2 c2) 31)) V8.heap.size 31 (oraL p A1 c1 A2 c2) := Is.new _ _ _
  have hb := (Below.refl V8.heap.size V8).alloc (Nat.le_refl _) (.cells (oraL p A1 c1 A2 c2) 31)
  replace iO := iO.alloc (.cells (oraL p A1 c1 A2 c2) 31)
  replace nO := nO.keep hb
  replace iD := iD.alloc (.cells (oraL p A1 c1 A2 c2) 31)
  replace nD := nD.keep hb
  have nP := (mP).keep hb
  replace hB := hB.alloc hB.size (.cells (oraL p A1 c1 A2 c2) 31)
  clear hb
  go_wp2_with (first | (refine wpList_load_rowG (by kernel_rfl) 31 _ rfl DO rfl 31 _ iO Tryz.underlying31 rfl infoOra ?_) | (refine wpList_load_rowG (by kernel_rfl) 31 _ rfl DD rfl 31 _ iD Tryz.underlying31 rfl infoOra ?_) | (refine wpList_load_rowG (by kernel_rfl) 31 _ rfl V8.heap.size rfl 31 _ iP Tryz.underlying31 rfl infoOra ?_))
  generalize V8.alloc (.cells (oraL p A1 c1 A2 c2) 31) = V9 at *
  generalize V8.heap.size = DP at *
  refine (LC2.out _ _ _ _ _ hB nD).mono ?_
  rintro e V10 ⟨E1, e1, E2, e2, rfl, mQ, hb⟩
  replace iO := iO.below hb iO.lt
  replace nO := nO.keep hb
  replace iD := iD.below hb iD.lt
  replace nD := nD.keep hb
  replace iP := iP.below hb iP.lt
  replace nP := nP.keep hb
  replace hB := hB.trans (hb.mono hB.size)
  clear hb
  have iQ : Is (V10.alloc (.cells (oraL oQ E1 e1 E2 e2) 31)) V10.heap.size 31 (oraL oQ E1 e1 E2 e2) := Is.new _ _ _
  have hb := (Below.refl V10.heap.size V10).alloc (Nat.le_refl _) (.cells (oraL oQ E1 e1 E2 e2) 31)
  replace iO := iO.alloc (.cells (oraL oQ E1 e1 E2 e2) 31)
  replace nO := nO.keep hb
  replace iD := iD.alloc (.cells (oraL oQ E1 e1 E2 e2) 31)
  replace nD := nD.keep hb
  replace iP := iP.alloc (.cells (oraL oQ E1 e1 E2 e2) 31)
  replace nP := nP.keep hb
  have nQ := (mQ).keep hb
  replace hB := hB.alloc hB.size (.cells (oraL oQ E1 e1 E2 e2) 31)
  clear hb
  go_wp2
  generalize V10.alloc (.cells (oraL oQ E1 e1 E2 e2) 31) = V11 at *
  generalize V10.heap.size = DQ at *
  have HCC := Lib.hid (fun W (hb : Below V11.heap.size V11 W) => CC.out A1 c1 A2 c2 W (hB.trans (hb.mono hB.size)) (nP.i.keep hb) (fun p hp => Nat.lt_of_lt_of_le (nP.a p hp) hb.size) (fun p hp => Nat.lt_of_lt_of_le (nP.b p hp) hb.size))
  refine Code.wp_mono ?_ (awake9_cel V11 p r A1 c1 A2 c2 DP iP nP.a nP.b s tx c TXC HCC _ _ _ _ _ _ _ _ _ _ _ _ _ _ _ _ _ _ _ _ _ _ _ _ _ _ _ _ _ _ _ _ _ _ _ _ _ _ _ _ _ _ _ _ _ _ _ _ _ _ _ _ _ _ _ _ _ _ _ _ _ _ _ _ _ _ _ _ _ _ _ _ _ _ _ _ _ _ _ _ _ _ _ _ _ _ _ _ _ _ _ _ _ _ _ _ _ _ _ _ _ _ _ _ _ _ _ _ _ _ _ _ _ _ _ _ _ _ _ _ _ _ _ _ _ _ _ _ _ _ _ _ _ _ _ _ _ _ _ _ _ _ _ _ _ _ _ _ _ _)
  rintro e YY V12 ⟨rfl, hd, F1, f1, F2, f2, DR, hT, hb, hDR, iR, nI, o1, o2, l1, l2, d1, d2⟩
  obtain ⟨T0, Dd⟩ := YY
  subst hT
  obtain rfl : Dd = [] := hd
  clear HCC o1 o2 d1 d2 hDR
  replace iO := iO.below hb iO.lt
  replace nO := nO.keep hb
  replace iD := iD.below hb iD.lt
  replace nD := nD.keep hb
  replace iP := iP.below hb iP.lt
  replace nP := nP.keep hb
  replace iQ := iQ.below hb iQ.lt
  replace nQ := nQ.keep hb
  replace hB := hB.trans (hb.mono hB.size)
  clear hb
  have nR : InO V12 r F1 f1 F2 f2 := ⟨nI, l1, l2⟩
  clear nI l1 l2
  go_wp2_with (first | (refine wpList_load_rowG (by kernel_rfl) 31 _ rfl DO rfl 31 _ iO Tryz.underlying31 rfl infoOra ?_) | (refine wpList_load_rowG (by kernel_rfl) 31 _ rfl DD rfl 31 _ iD Tryz.underlying31 rfl infoOra ?_) | (refine wpList_load_rowG (by kernel_rfl) 31 _ rfl DP rfl 31 _ iP Tryz.underlying31 rfl infoOra ?_) | (refine wpList_load_rowG (by kernel_rfl) 31 _ rfl DQ rfl 31 _ iQ Tryz.underlying31 rfl infoOra ?_) | (refine wpList_load_rowG (by kernel_rfl) 31 _ rfl DR rfl 31 _ iR Tryz.underlying31 rfl infoOra ?_))
  refine (OC1.out _ _ _ _ _ hB nR).mono ?_
  rintro e V13 ⟨rfl, hb⟩
  replace iO := iO.below hb iO.lt
  replace nO := nO.keep hb
  replace iD := iD.below hb iD.lt
  replace nD := nD.keep hb
  replace iP := iP.below hb iP.lt
  replace nP := nP.keep hb
  replace iQ := iQ.below hb iQ.lt
  replace nQ := nQ.keep hb
  replace iR := iR.below hb iR.lt
  replace nR := nR.keep hb
  replace hB := hB.trans (hb.mono hB.size)
  clear hb
  go_wp2_with (first | (refine wpList_load_rowG (by kernel_rfl) 31 _ rfl DO rfl 31 _ iO Tryz.underlying31 rfl infoOra ?_) | (refine wpList_load_rowG (by kernel_rfl) 31 _ rfl DD rfl 31 _ iD Tryz.underlying31 rfl infoOra ?_) | (refine wpList_load_rowG (by kernel_rfl) 31 _ rfl DP rfl 31 _ iP Tryz.underlying31 rfl infoOra ?_) | (refine wpList_load_rowG (by kernel_rfl) 31 _ rfl DQ rfl 31 _ iQ Tryz.underlying31 rfl infoOra ?_) | (refine wpList_load_rowG (by kernel_rfl) 31 _ rfl DR rfl 31 _ iR Tryz.underlying31 rfl infoOra ?_))
  refine (OC2.out _ _ _ _ _ nR).mono ?_
  rintro e V14 ⟨rfl, hb⟩
  replace iO := iO.below hb iO.lt
  replace nO := nO.keep hb
  replace iD := iD.below hb iD.lt
  replace nD := nD.keep hb
  replace iP := iP.below hb iP.lt
  replace nP := nP.keep hb
  replace iQ := iQ.below hb iQ.lt
  replace nQ := nQ.keep hb
  replace iR := iR.below hb iR.lt
  replace nR := nR.keep hb
  replace hB := hB.trans (hb.mono hB.size)
  clear hb
  go_wp2_with (first | (refine wpList_load_rowG (by kernel_rfl) 31 _ rfl DO rfl 31 _ iO Tryz.underlying31 rfl infoOra ?_) | (refine wpList_load_rowG (by kernel_rfl) 31 _ rfl DD rfl 31 _ iD Tryz.underlying31 rfl infoOra ?_) | (refine wpList_load_rowG (by kernel_rfl) 31 _ rfl DP rfl 31 _ iP Tryz.underlying31 rfl infoOra ?_) | (refine wpList_load_rowG (by kernel_rfl) 31 _ rfl DQ rfl 31 _ iQ Tryz.underlying31 rfl infoOra ?_) | (refine wpList_load_rowG (by kernel_rfl) 31 _ rfl DR rfl 31 _ iR Tryz.underlying31 rfl infoOra ?_))
  refine (LC3.out _ _ _ _ _ hB nQ).mono ?_
  rintro e V15 ⟨G1, g1, G2, g2, rfl, mZ, hb⟩
  replace iO := iO.below hb iO.lt
  replace nO := nO.keep hb
  replace iD := iD.below hb iD.lt
  replace nD := nD.keep hb
  replace iP := iP.below hb iP.lt
  replace nP := nP.keep hb
  replace iQ := iQ.below hb iQ.lt
  replace nQ := nQ.keep hb
  replace iR := iR.below hb iR.lt
  replace nR := nR.keep hb
  replace hB := hB.trans (hb.mono hB.size)
  clear hb
  have iZ : Is (V15.alloc (.cells (oraL oQ G1 g1 G2 g2) 31)) V15.heap.size 31 (oraL oQ G1 g1 G2 g2) := Is.new _ _ _
  have hb := (Below.refl V15.heap.size V15).alloc (Nat.le_refl _) (.cells (oraL oQ G1 g1 G2 g2) 31)
  replace iO := iO.alloc (.cells (oraL oQ G1 g1 G2 g2) 31)
  replace nO := nO.keep hb
  replace iD := iD.alloc (.cells (oraL oQ G1 g1 G2 g2) 31)
  replace nD := nD.keep hb
  replace iP := iP.alloc (.cells (oraL oQ G1 g1 G2 g2) 31)
  replace nP := nP.keep hb
  replace iQ := iQ.alloc (.cells (oraL oQ G1 g1 G2 g2) 31)
  replace nQ := nQ.keep hb
  replace iR := iR.alloc (.cells (oraL oQ G1 g1 G2 g2) 31)
  replace nR := nR.keep hb
  have nZ := (mZ).keep hb
  replace hB := hB.alloc hB.size (.cells (oraL oQ G1 g1 G2 g2) 31)
  clear hb
  go_wp2_with (first | (refine wpList_load_rowG (by kernel_rfl) 31 _ rfl DO rfl 31 _ iO Tryz.underlying31 rfl infoOra ?_) | (refine wpList_load_rowG (by kernel_rfl) 31 _ rfl DD rfl 31 _ iD Tryz.underlying31 rfl infoOra ?_) | (refine wpList_load_rowG (by kernel_rfl) 31 _ rfl DP rfl 31 _ iP Tryz.underlying31 rfl infoOra ?_) | (refine wpList_load_rowG (by kernel_rfl) 31 _ rfl DQ rfl 31 _ iQ Tryz.underlying31 rfl infoOra ?_) | (refine wpList_load_rowG (by kernel_rfl) 31 _ rfl DR rfl 31 _ iR Tryz.underlying31 rfl infoOra ?_) | (refine wpList_load_rowG (by kernel_rfl) 31 _ rfl V15.heap.size rfl 31 _ iZ Tryz.underlying31 rfl infoOra ?_))
  generalize V15.alloc (.cells (oraL oQ G1 g1 G2 g2) 31) = V16 at *
  generalize V15.heap.size = DZ at *
  refine (TXC.out _).mono ?_
  rintro e V17 ⟨rfl, hb⟩
  replace iO := iO.below hb iO.lt
  replace nO := nO.keep hb
  replace iD := iD.below hb iD.lt
  replace nD := nD.keep hb
  replace iP := iP.below hb iP.lt
  replace nP := nP.keep hb
  replace iQ := iQ.below hb iQ.lt
  replace nQ := nQ.keep hb
  replace iR := iR.below hb iR.lt
  replace nR := nR.keep hb
  replace iZ := iZ.below hb iZ.lt
  replace nZ := nZ.keep hb
  replace hB := hB.trans (hb.mono hB.size)
  clear hb
  go_wp2_with (first | (refine wpList_load_rowG (by kernel_rfl) 31 _ rfl DO rfl 31 _ iO Tryz.underlying31 rfl infoOra ?_) | (refine wpList_load_rowG (by kernel_rfl) 31 _ rfl DD rfl 31 _ iD Tryz.underlying31 rfl infoOra ?_) | (refine wpList_load_rowG (by kernel_rfl) 31 _ rfl DP rfl 31 _ iP Tryz.underlying31 rfl infoOra ?_) | (refine wpList_load_rowG (by kernel_rfl) 31 _ rfl DQ rfl 31 _ iQ Tryz.underlying31 rfl infoOra ?_) | (refine wpList_load_rowG (by kernel_rfl) 31 _ rfl DR rfl 31 _ iR Tryz.underlying31 rfl infoOra ?_) | (refine wpList_load_rowG (by kernel_rfl) 31 _ rfl DZ rfl 31 _ iZ Tryz.underlying31 rfl infoOra ?_))
  refine (RC.out _ _ _ _ _ nO).mono ?_
  rintro e V18 ⟨rfl, hb⟩
  replace iO := iO.below hb iO.lt
  replace nO := nO.keep hb
  replace iD := iD.below hb iD.lt
  replace nD := nD.keep hb
  replace iP := iP.below hb iP.lt
  replace nP := nP.keep hb
  replace iQ := iQ.below hb iQ.lt
  replace nQ := nQ.keep hb
  replace iR := iR.below hb iR.lt
  replace nR := nR.keep hb
  replace iZ := iZ.below hb iZ.lt
  replace nZ := nZ.keep hb
  replace hB := hB.trans (hb.mono hB.size)
  clear hb
  go_wp2_with (first | (refine wpList_load_rowG (by kernel_rfl) 31 _ rfl DO rfl 31 _ iO Tryz.underlying31 rfl infoOra ?_) | (refine wpList_load_rowG (by kernel_rfl) 31 _ rfl DD rfl 31 _ iD Tryz.underlying31 rfl infoOra ?_) | (refine wpList_load_rowG (by kernel_rfl) 31 _ rfl DP rfl 31 _ iP Tryz.underlying31 rfl infoOra ?_) | (refine wpList_load_rowG (by kernel_rfl) 31 _ rfl DQ rfl 31 _ iQ Tryz.underlying31 rfl infoOra ?_) | (refine wpList_load_rowG (by kernel_rfl) 31 _ rfl DR rfl 31 _ iR Tryz.underlying31 rfl infoOra ?_) | (refine wpList_load_rowG (by kernel_rfl) 31 _ rfl DZ rfl 31 _ iZ Tryz.underlying31 rfl infoOra ?_))
  go_ret
  exact ⟨rfl, hB⟩
end
end Go.Proofs.YtfgdcpolfekgjaaGreat

