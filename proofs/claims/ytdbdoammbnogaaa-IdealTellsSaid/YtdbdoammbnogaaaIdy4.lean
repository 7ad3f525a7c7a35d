/-
  Layer 8: contract of the statements' own Ideal: an ideal of a tape, and raw questions, at most fifteen. Condition: the questions lie where the slice points to.
-/
import Derived.Test.YtdbdoammbnogaaaIdy3
namespace Go.Proofs.Ytdbdoammbnogaaa
open Go.RowKit Go.Shelf

theorem infoA3 : (Try.prog.info? 24).map (·.size) = some 3 := by kernel_rfl
abbrev Raw8 := Int × Int × Int
abbrev flI (R : List Raw8) : List Value := R.flatMap fun n => [.int .i64 n.1, .int .i64 n.2.1, .int .i64 n.2.2]
theorem flI_at {R : List Raw8} {k : Nat} {x : Raw8} (h : R[k]? = some x) (j : Nat) (hj : j < 3) : (flI R)[k * 3 + j]? = ([.int .i64 x.1, .int .i64 x.2.1, .int .i64 x.2.2] : List Value)[j]? := by
  induction R generalizing k with
  | nil => rw [List.getElem?_nil] at h; cases h
  | cons y r ih =>
    rw [flI, List.flatMap_cons, List.getElem?_append]
    cases k with
    | zero => cases h; rw [if_pos (by show 0 * 3 + j < 3; omega), Nat.zero_mul, Nat.zero_add]
    | succ k =>
      rw [List.getElem?_cons_succ] at h
      rw [if_neg (by show ¬ (k + 1) * 3 + j < 3; omega), ← ih h]
      congr 1
      show (k + 1) * 3 + j - 3 = _
      omega
/-- where a raw question lies. -/
theorem InV.raw {W : World} {A : Option Addr} {R : List Raw8} (h : InV W A (flI R)) {k : Nat} {x : Raw8} (hx : R[k]? = some x) :
    ∃ b off, A = some ⟨b, off, none⟩ ∧ b < W.heap.size ∧ W.rangeAt b (off + k * 3) [.int .i64 x.1, .int .i64 x.2.1, .int .i64 x.2.2] := by
  obtain ⟨b, off, rfl, hb, h0⟩ := h (k * 3 + 0) (.int .i64 x.1) ((flI_at hx 0 (by omega)).trans rfl)
  refine ⟨b, off, rfl, hb, fun j v hj => ?_⟩
  have hj2 : j < 3 := (List.getElem?_eq_some_iff.1 hj).1
  obtain ⟨b2, off2, e, _, h1⟩ := h (k * 3 + j) v ((flI_at hx j hj2).trans hj)
  cases e
  rw [← h1, Nat.add_assoc]
theorem InV.rawAt {W : World} {b off : Nat} {R : List Raw8} (h : InV W (some ⟨b, off, none⟩) (flI R)) {k : Nat} {x : Raw8} (hx : R[k]? = some x) :
    W.rangeAt b (off + k * 3) [.int .i64 x.1, .int .i64 x.2.1, .int .i64 x.2.2] := by
  obtain ⟨b2, off2, e, _, h1⟩ := h.raw hx
  cases e
  exact h1
/-- the questions that are asked; an ideal behind questions. -/
def qs8 (R : List Raw8) : List Q8 := (R.take 15).map fun n => que8 n.1 n.2.1 n.2.2
def asks8 (d : Ide) (qs : List Q8) : Ide := qs.foldl (fun d q => (ask8 d q).2.1) d
theorem qs8_len (R : List Raw8) : (qs8 R).length = min 15 R.length := by rw [qs8, List.length_map, List.length_take]
theorem qs8_at {R : List Raw8} {k : Nat} {n : Raw8} (h : R[k]? = some n) (hk : k < 15) : (qs8 R)[k]? = some (que8 n.1 n.2.1 n.2.2) := by
  rw [qs8, List.getElem?_map, List.getElem?_take, if_pos hk, h]
  rfl
theorem asks8_succ (d : Ide) {qs : List Q8} {k : Nat} {q : Q8} (h : qs[k]? = some q) : asks8 d (qs.take (k + 1)) = (ask8 (asks8 d (qs.take k)) q).2.1 := by
  rw [List.take_add_one, h]
  simp [asks8, List.foldl_append]
theorem qs8_ok (R : List Raw8) : ∀ q ∈ qs8 R, q.Ok := fun q hq => by
  obtain ⟨n, _, rfl⟩ := List.mem_map.1 hq
  exact que8_ok _ _ _
/-- an ideal of a tape from its beginning, behind so many questions. -/
theorem asks8_fro {B : ByteArray} {d : Ide} (h : Fro8 B 0 d) (qs : List Q8) : Fro8 B qs.length (asks8 d qs) := by
  suffices hs : ∀ (l : List Q8) (k : Nat) (d : Ide), Fro8 B k d → Fro8 B (k + l.length) (asks8 d l) by
    have := hs qs 0 d h
    rwa [Nat.zero_add] at this
  intro l
  induction l with
  | nil => intro k d hd; exact hd
  | cons q r ih =>
    intro k d hd
    have := ih (k + 1) _ (ask8_fro hd q)
    rw [List.length_cons, show k + (r.length + 1) = k + 1 + r.length by omega]
    exact this
def Big8 (n : Raw8) : Prop := (-9223372036854775808 ≤ n.1 ∧ n.1 ≤ 9223372036854775807) ∧ (-9223372036854775808 ≤ n.2.1 ∧ n.2.1 ≤ 9223372036854775807) ∧ (-9223372036854775808 ≤ n.2.2 ∧ n.2.2 ≤ 9223372036854775807)

set_option maxRecDepth 100000 in
set_option maxHeartbeats 4000000 in
theorem ideal_any (B : ByteArray) (a : Int) (A : Option Addr) (cap : Nat) (R : List Raw8) (w : World) (hc : InV w A (flI R)) (hb : ∀ n ∈ R, Big8 n) (hl : R.length ≤ maxLen) :
    Calls Try.prog 13 #[.agg #[.string B, .int .i64 a], .slice A R.length cap] w fun e w' => ∃ A1 c1 A2 c2, e = .returned (ideV (asks8 (new8 B a).1 (qs8 R)) A1 c1 A2 c2) ∧ InI w' (asks8 (new8 B a).1 (qs8 R)) A1 c1 A2 c2 ∧ Below w.heap.size w w' := by
  unfold maxLen at hl
  have HC := Lib.hid hc
  have HY := Lib.hid hb
  have HN := Lib.hid (fun w => dnew_any B a w)
  have hlen := Lib.hid (qs8_len R)
  obtain ⟨d0, hd0⟩ : ∃ d, d = (new8 B a).1 := ⟨_, rfl⟩
  have HI0 := Lib.hid (fun (W : World) => show InI W d0 none 0 none 0 from by
    have e : d0.N = [] ∧ d0.K = [] := by rw [hd0, new8]; split <;> exact ⟨rfl, rfl⟩
    refine ⟨?_, ?_, fun _ => rfl, fun _ => rfl, ?_, ?_⟩
    · rw [e.1]; intro j u hj; cases hj
    · rw [e.2]; intro j u hj; cases hj
    · rw [e.1]; simp
    · rw [e.2]; simp)
  have HZ0 := Lib.hid (show d0.N.length = 0 ∧ d0.K.length = 0 from by rw [hd0, new8]; split <;> exact ⟨rfl, rfl⟩)
  rw [← hd0] at HN ⊢
  clear hc hb hd0
  generalize (new8 B a).2 = e0 at *
  obtain ⟨W1, hW1⟩ : ∃ W, W = (w.alloc (.cells #[.string B, .int .i64 a] 26)).alloc (.cells zer8 30) := ⟨_, rfl⟩
  have iT : Is W1 w.heap.size 26 #[.string B, .int .i64 a] := by rw [hW1]; exact heap_alloc2_old w _ _
  have iR : Is W1 (w.heap.size + 1) 30 zer8 := by rw [hW1]; exact heap_alloc2_new w _ _
  have hB : Below w.heap.size w W1 := by rw [hW1]; exact ((Below.refl _ _).alloc (Nat.le_refl _) _).alloc (by simp) _
  have k0 : W1.cell? ⟨w.heap.size, 0, none⟩ = some (.string B) := iT.cell 0
  have k1 : W1.cell? ⟨w.heap.size, 1, none⟩ = some (.int .i64 a) := iT.cell 1
  go_enter Try.func13, Try.ntmps13
  go_wp2_with fail
  rw [← hW1]
  clear hW1
  go_wp2_with fail
  clear k0 k1
  refine (HN.out _).mono ?_
  rintro e V0 ⟨rfl, hx⟩
  replace iR := iR.below hx iR.lt
  replace hB := hB.trans (hx.mono hB.size)
  clear hx iT
  have hne : w.heap.size + 1 < V0.heap.size := iR.lt
  replace iR := iR.alloc (.cells (ideL d0 none 0 none 0) 30)
  have hDG := hB.size
  replace hB := hB.alloc hB.size (.cells (ideL d0 none 0 none 0) 30)
  have iG : Is (V0.alloc (.cells (ideL d0 none 0 none 0) 30)) V0.heap.size 30 (ideL d0 none 0 none 0) := Is.new _ _ _
  go_wp2
  generalize V0.alloc (.cells (ideL d0 none 0 none 0) 30) = V at *
  generalize V0.heap.size = DG at *
  go_loopw [7] (fun i wr => ∃ (k : Nat) (A1 : Option Addr) (c1 : Nat) (A2 : Option Addr) (c2 : Nat), k ≤ 15 ∧ k ≤ R.length ∧ i = .int .i64 (k : Int) ∧ Is wr DG 30 (ideL (asks8 d0 ((qs8 R).take k)) A1 c1 A2 c2) ∧ InI wr (asks8 d0 ((qs8 R).take k)) A1 c1 A2 c2 ∧ Is wr (w.heap.size + 1) 30 zer8 ∧ Below w.heap.size w wr)
    (fun i _ => 15 - (intOf i).toNat)
  case atStart => exact ⟨0, none, 0, none, 0, by omega, by omega, rfl, iG, HI0.out _, iR, hB⟩
  case round =>
    clear iG iR hB
    obtain ⟨k, A1, c1, A2, c2, hk15, hkl, rfl, iG, hI, iR, hB⟩ := hrel
    by_cases hlt : k < R.length ∧ k < 15
    · obtain ⟨hlt, hlt2⟩ := hlt
      obtain ⟨n, hn⟩ : ∃ n, R[k]? = some n := ⟨_, List.getElem?_eq_getElem hlt⟩
      have HK := Lib.hid hn
      have hnb := Lib.hid (HY.out n (List.mem_of_getElem? hn))
      obtain ⟨b, off, rfl, _, _⟩ := HC.out.raw hn
      have hr := (HC.out.keep hB).rawAt hn
      have HQ := Lib.hid (asks8_succ d0 (qs8_at hn hlt2)).symm
      obtain ⟨D, hD⟩ : ∃ D, D = asks8 d0 ((qs8 R).take k) := ⟨_, rfl⟩
      rw [← hD] at iG hI HQ
      clear hn hD
      have l1 : (k : Int) < (R.length : Int) := by omega
      have l2 : (k : Int) < 15 := by omega
      have w1i := IntWalk.i64_in ((k : Int) + 1) (by omega)
      go_wp2
      refine wp_region_held_drew (S := fun W => W.rangeAt b (off + k * 3) [.int .i64 n.1, .int .i64 n.2.1, .int .i64 n.2.2]) (by kernel_rfl) hr (fun hS => ?_)
      change wpAnyH _ _ (opsOf Try.f13 5) _ _ 7 (Array.replicate 7 false) _ _
      clear hS
      replace iG := iG.drewN 1
      replace iR := iR.drewN 1
      replace hB := belowN hB 1
      replace hI := hI.drewN 1
      replace hr : (wr.drewN 1).rangeAt b (off + k * 3) [.int .i64 n.1, .int .i64 n.2.1, .int .i64 n.2.2] := hr
      change wpAnyH _ _ _ _ _ _ _ _ (wr.drewN 1)
      generalize wr.drewN 1 = V at *
      refine wpAnyH_pure (i := 1) (o := { dst := some 24, op := Op.move (Operand.tmp 1), type := 23, pos := "law.go:52", after := #[], guard := none }) (v := .slice (some ⟨b, off, none⟩) R.length cap) (by kernel_rfl) (by kernel_rfl) (by kernel_rfl) (by kernel_rfl) (fun _ _ _ h => h) (by kernel_rfl) (fun w hSw => by kernel_rfl) hr ?_
      simp only [Act.put, List.setIfInBounds_toArray, List.set_cons_succ, List.set_cons_zero]
      refine wpAnyH_pure (i := 2) (o := { dst := some 25, op := Op.move (Operand.tmp 7), type := 3, pos := "law.go:52", after := #[], guard := none }) (v := .int .i64 (k : Int)) (by kernel_rfl) (by kernel_rfl) (by kernel_rfl) (by kernel_rfl) (fun _ _ _ h => h) (by kernel_rfl) (fun w hSw => by kernel_rfl) hr ?_
      simp only [Act.put, List.setIfInBounds_toArray, List.set_cons_succ, List.set_cons_zero]
      refine wpAnyH_pure (i := 3) (o := { dst := some 26, op := Op.indexAddr 23 (Operand.tmp 24) (Operand.tmp 25), type := 0, pos := "law.go:52", after := #[{ on := 1, ground := Ground.data }, { on := 2, ground := Ground.data }], guard := none }) (v := .pointer (some ⟨b, off + k * 3, none⟩)) (by kernel_rfl) (by kernel_rfl) (by kernel_rfl) (by kernel_rfl) (fun _ _ _ h => h) (by kernel_rfl) (fun w hSw => by go_simp) hr ?_
      simp only [Act.put, List.setIfInBounds_toArray, List.set_cons_succ, List.set_cons_zero]
      refine wpAnyH_pure (i := 4) (o := { dst := some 27, op := Op.load 24 (Operand.tmp 26), type := 24, pos := "law.go:52", after := #[{ on := 3, ground := Ground.data }], guard := none }) (v := (.agg #[.int .i64 n.1, .int .i64 n.2.1, .int .i64 n.2.2])) (by kernel_rfl) (by kernel_rfl) (by kernel_rfl) (by kernel_rfl) (fun _ _ _ h => h) (by kernel_rfl) (fun w hSw => by exact exec_load rfl rfl (run_loadVar_mid _ b (off + k * 3) 24 [.int .i64 n.1, .int .i64 n.2.1, .int .i64 n.2.2] _ hSw Try.underlying24 rfl infoA3)) hr ?_
      simp only [Act.put, List.setIfInBounds_toArray, List.set_cons_succ, List.set_cons_zero]
      refine wpAnyH_loadrow (i := 0) (o := { dst := some 23, op := Op.load 30 (Operand.tmp 5), type := 30, pos := "law.go:52", after := #[], guard := none }) (g := DG) (t := 30) (cs := (ideL D A1 c1 A2 c2)) (by kernel_rfl) (by kernel_rfl) (by kernel_rfl) rfl (by kernel_rfl) iG Try.underlying30 rfl infoIde hr ?_
      simp only [Act.put, List.setIfInBounds_toArray, List.set_cons_succ, List.set_cons_zero]
      refine wpAnyH_call (i := 5) (o := { dst := some 28, op := Op.call { callee := Callee.value (Operand.func 27), args := #[Operand.tmp 23, Operand.tmp 27], argTypes := #[30, 24] }, type := 30, pos := "law.go:52", after := #[{ on := 0, ground := Ground.data }, { on := 4, ground := Ground.data }], guard := none }) (by kernel_rfl) (by kernel_rfl) (by kernel_rfl) (fun w => by kernel_rfl) ((ask_any D A1 c1 A2 c2 n.1 n.2.1 n.2.2 _ hI hnb.out.1 hnb.out.2.1 hnb.out.2.2).mono ?_)
      rintro e V2 ⟨E1, e1, E2, e2, rfl, hI2, hb⟩
      replace iG := iG.below hb iG.lt
      replace iR := iR.below hb iR.lt
      replace hB := hB.trans (hb.mono hB.size)
      replace hr : V2.rangeAt b (off + k * 3) [.int .i64 n.1, .int .i64 n.2.1, .int .i64 n.2.2] := (HC.out.keep hB).rawAt HK.out
      clear hb hI
      rw [HQ.out] at hI2 ⊢
      refine ⟨_, rfl, hr, ?_⟩
      try simp only [Act.put, List.setIfInBounds_toArray, List.set_cons_succ, List.set_cons_zero]
      have jG := iG.row (ideL (asks8 d0 ((qs8 R).take (k + 1))) E1 e1 E2 e2)
      have jR := iR.rowFar (k := DG) (by omega) (ideL (asks8 d0 ((qs8 R).take (k + 1))) E1 e1 E2 e2)
      have jB := belowRow hB (g := DG) (by omega) (ideL (asks8 d0 ((qs8 R).take (k + 1))) E1 e1 E2 e2)
      have jI := hI2.offRow iG (ideL (asks8 d0 ((qs8 R).take (k + 1))) E1 e1 E2 e2)
      have jr : (V2.setRow DG (ideL (asks8 d0 ((qs8 R).take (k + 1))) E1 e1 E2 e2)).rangeAt b (off + k * 3) [.int .i64 n.1, .int .i64 n.2.1, .int .i64 n.2.2] := (HC.out.keep jB).rawAt HK.out
      refine wpAnyH_storerow (i := 6) (o := { dst := none, op := Op.store 30 (Operand.tmp 5) (Operand.tmp 28), type := 0, pos := "law.go:52", after := #[{ on := 5, ground := Ground.data }, { on := 5, ground := Ground.chain }, { on := 0, ground := Ground.phase }, { on := 1, ground := Ground.phase }, { on := 2, ground := Ground.phase }, { on := 3, ground := Ground.phase }, { on := 4, ground := Ground.phase }, { on := 5, ground := Ground.phase }], guard := none }) (g := DG) (cs := (ideL (asks8 d0 ((qs8 R).take (k + 1))) E1 e1 E2 e2)) (t := 30) (old := (ideL D A1 c1 A2 c2)) (by kernel_rfl) (by kernel_rfl) (by kernel_rfl) rfl (by kernel_rfl) (by kernel_rfl) iG infoIde rfl (ideL_one _ _ _ _ _) jr ?_
      simp only [Act.put]
      refine wpAnyH_done (by kernel_rfl) ?_ _
      go_wp2
      go_roundw
      case rel => first | exact ⟨k + 1, E1, e1, E2, e2, by omega, by omega, by go_num, jG, jI, jR, jB⟩ | exact ⟨k + 1, by omega, by omega, E1, e1, E2, e2, by go_num, jG, jI, jR, jB⟩
      case measure => simp [intOf]; omega
    · have hd : (¬ k < R.length) ∨ (k < R.length ∧ ¬ k < 15) := by omega
      have he : asks8 d0 ((qs8 R).take k) = asks8 d0 (qs8 R) := by rw [List.take_of_length_le]; rw [hlen.out]; omega
      rw [he] at iG hI
      have HE := Lib.hid he
      clear he
      rcases hd with l1 | ⟨l1, l2⟩
      · have l1' : ¬ (k : Int) < (R.length : Int) := by omega
        go_wp2_with (first | (refine wpList_load_row rfl 30 _ rfl DG rfl 30 _ (0, 0) _ iG Try.underlying30 rfl infoIde ?_) | (refine wpList_store_row rfl 30 _ _ rfl (w.heap.size + 1) (ideL (asks8 d0 (qs8 R)) A1 c1 A2 c2) rfl rfl 30 _ iR infoIde rfl (ideL_one _ _ _ _ _) ?_))
        exact bodyPost_ret (results_cell_row Try.results13 _ _ (w.heap.size + 1) 30 _ (0, 0) _ rfl (iR.row _) Try.underlying30 rfl infoIde) rfl ⟨A1, c1, A2, c2, rfl, hI.offRow (d' := (⟨⟨#[]⟩, 0, [], [], false⟩ : Ide)) (E := none) (e := 0) (E' := none) (e' := 0) iR _, belowRow hB (by omega) _⟩
      · have l1' : (k : Int) < (R.length : Int) := by omega
        have l2' : ¬ (k : Int) < 15 := by omega
        go_wp2_with (first | (refine wpList_load_row rfl 30 _ rfl DG rfl 30 _ (0, 0) _ iG Try.underlying30 rfl infoIde ?_) | (refine wpList_store_row rfl 30 _ _ rfl (w.heap.size + 1) (ideL (asks8 d0 (qs8 R)) A1 c1 A2 c2) rfl rfl 30 _ iR infoIde rfl (ideL_one _ _ _ _ _) ?_))
        exact bodyPost_ret (results_cell_row Try.results13 _ _ (w.heap.size + 1) 30 _ (0, 0) _ rfl (iR.row _) Try.underlying30 rfl infoIde) rfl ⟨A1, c1, A2, c2, rfl, hI.offRow (d' := (⟨⟨#[]⟩, 0, [], [], false⟩ : Ide)) (E := none) (e := 0) (E' := none) (e' := 0) iR _, belowRow hB (by omega) _⟩
end Go.Proofs.Ytdbdoammbnogaaa
