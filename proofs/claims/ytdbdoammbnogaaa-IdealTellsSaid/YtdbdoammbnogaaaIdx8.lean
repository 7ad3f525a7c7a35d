/-
  Layer 8: contracts of Open, Label and Seal, the document's own, whatever they are asked; Same, where both are one ideal. Condition: the ideals' lists lie where the slices point to.
-/
import Derived.Test.YtdbdoammbnogaaaIdx6
import Derived.Test.YtdbdoammbnogaaaIdx7
namespace Go.Proofs.Ytdbdoammbnogaaa
open Go.RowKit Go.Shelf

/-- Label, the document's own, whatever it is asked. -/
theorem dlabel_any (d : Ide) (A : Option Addr) (c : Nat) (A' : Option Addr) (c' : Nat) (i : ByteArray) (w : World) (h : InI w d A c A' c') :
    Calls Try.prog 16 #[ideV d A c A' c', .string i] w fun e w' => ∃ A1 c1 A2 c2, e = .returned (.tuple #[.string (lab8 d i).1, ideV (lab8 d i).2.1 A1 c1 A2 c2, .int .i64 (lab8 d i).2.2]) ∧ InI w' (lab8 d i).2.1 A1 c1 A2 c2 ∧ Below w.heap.size w w' := by
  cases hr : right8 d with
  | false =>
    have e : lab8 d i = (⟨#[]⟩, d, 1) := by rw [lab8, hr]; rfl
    rw [e]
    exact dlabel_a d A c A' c' i w h hr
  | true =>
    by_cases hi : 100 < (i.size : Int)
    · have e : lab8 d i = (⟨#[]⟩, d, 1) := by rw [lab8, if_neg (by rw [hr]; simp; omega)]
      rw [e]
      exact dlabel_b d A c A' c' i w h hr hi
    · exact dlabel_go d A c A' c' i w h hr hi
/-- Seal, the document's own, whatever it is asked. -/
theorem dseal_any (d : Ide) (A : Option Addr) (c : Nat) (A' : Option Addr) (c' : Nat) (l t : ByteArray) (w : World) (h : InI w d A c A' c') :
    Calls Try.prog 22 #[ideV d A c A' c', .string l, .string t] w fun e w' => ∃ A1 c1 A2 c2, e = .returned (.tuple #[.string (sea8 d l t).1, ideV (sea8 d l t).2.1 A1 c1 A2 c2, .int .i64 (sea8 d l t).2.2]) ∧ InI w' (sea8 d l t).2.1 A1 c1 A2 c2 ∧ Below w.heap.size w w' := by
  cases hr : right8 d with
  | false =>
    have e : sea8 d l t = (⟨#[]⟩, d, 1) := by rw [sea8, hr]; rfl
    rw [e]
    exact dseal_a d A c A' c' l t w h hr
  | true =>
    by_cases hi : (l.size : Int) = 16
    · by_cases hj : (t.size : Int) = 24
      · exact dseal_go d A c A' c' l t w h hr hi hj
      · have e : sea8 d l t = (⟨#[]⟩, d, 1) := by rw [sea8, if_neg (by rw [hr]; simp; omega)]
        rw [e]
        exact dseal_b2 d A c A' c' l t w h hr hi hj
    · have e : sea8 d l t = (⟨#[]⟩, d, 1) := by rw [sea8, if_neg (by rw [hr]; simp; omega)]
      rw [e]
      exact dseal_b d A c A' c' l t w h hr hi
theorem ope_hit {d : Ide} {l s : ByteArray} (hz : right8 d = true) {x : Cel8} {j : Nat} (hx : d.K[j]? = some x) (hq : x.1 = l ∧ x.2.2 = s) (hn : ∀ y ∈ d.K.take j, ¬ (y.1 = l ∧ y.2.2 = s)) : ope8 d l s = (x.2.1, 0) := by
  rw [ope8, if_pos hz, find_first hx (fun y hy => by simpa using hn y hy) (by simpa using hq)]
theorem ope_miss {d : Ide} {l s : ByteArray} (hz : right8 d = true) (hn : ∀ y ∈ d.K, ¬ (y.1 = l ∧ y.2.2 = s)) : ope8 d l s = (⟨#[]⟩, 11) := by
  rw [ope8, if_pos hz, List.find?_eq_none.2 (fun y hy => by simpa using hn y hy)]
set_option maxRecDepth 100000 in
set_option maxHeartbeats 4000000 in
/-- Open, the document's own, whatever it is asked. -/
theorem dopen_any (d : Ide) (A : Option Addr) (c : Nat) (A' : Option Addr) (c' : Nat) (l s : ByteArray) (w : World) (h : InI w d A c A' c') :
    Calls Try.prog 24 #[ideV d A c A' c', .string l, .string s] w fun e w' => e = .returned (.tuple #[.string (ope8 d l s).1, .int .i64 (ope8 d l s).2]) ∧ Below w.heap.size w w' := by
  have HI := Lib.hid h
  have hfK := h.fitK
  have C := Lib.hid (fun (W : World) (hw : InI W d A c A' c') => dright8_any d A c A' c' W hw)
  clear h
  obtain ⟨W1, hW1⟩ : ∃ W, W = w.alloc (.cells (ideL d A c A' c') 30) := ⟨_, rfl⟩
  have i1 : Is W1 w.heap.size 30 (ideL d A c A' c') := by rw [hW1]; exact Is.new _ _ _
  have hB : Below w.heap.size w W1 := by rw [hW1]; exact (Below.refl _ _).alloc (Nat.le_refl _) _
  cases hr : right8 d with
  | false =>
    have hz : ope8 d l s = (⟨#[]⟩, 1) := by rw [ope8, hr]; rfl
    rw [hz]
    rw [hr] at C
    clear hz hr
    go_enter Try.func24, Try.ntmps24
    go_wp2_with fail
    rw [← hW1]
    clear hW1
    go_wp2_with (refine wpList_load_row rfl 30 _ rfl w.heap.size rfl 30 _ (0, 0) _ i1 Try.underlying30 rfl infoIde ?_)
    refine (C.out _ (HI.out.keep hB)).mono ?_
    rintro e W2 ⟨rfl, hb⟩
    go_wp2
    exact bodyPost_ret (results_tmp2 Try.results24 _ _ _) rfl ⟨rfl, hB.trans (hb.mono hB.size)⟩
  | true =>
    rw [hr] at C
    have HR := Lib.hid hr
    clear hr
    go_enter Try.func24, Try.ntmps24
    go_wp2_with fail
    rw [← hW1]
    clear hW1
    go_wp2_with (refine wpList_load_row rfl 30 _ rfl w.heap.size rfl 30 _ (0, 0) _ i1 Try.underlying30 rfl infoIde ?_)
    refine (C.out _ (HI.out.keep hB)).mono ?_
    rintro e W2 ⟨rfl, hb⟩
    have iD := i1.below hb i1.lt
    have hB2 := hB.trans (hb.mono hB.size)
    clear i1 hB hb
    go_wp2
    go_loopw [8] (fun i0 wr => ∃ j : Nat, j ≤ d.K.length ∧ i0 = .int .i64 (j : Int) ∧ Is wr w.heap.size 30 (ideL d A c A' c') ∧ Below w.heap.size w wr ∧ No8 (∀ y ∈ d.K.take j, ¬ (y.1 = l ∧ y.2.2 = s)))
      (fun i0 _ => d.K.length - (intOf i0).toNat)
    case atStart => exact ⟨0, by omega, rfl, iD, hB2, ⟨fun x hx => by cases hx⟩⟩
    case round =>
      clear iD hB2
      obtain ⟨j, hj, rfl, iD, hB, hno⟩ := hrel
      have c3 : wr.cell? ⟨w.heap.size, 3, none⟩ = some (.slice A' d.K.length c') := iD.cell 3
      by_cases hlt : j < d.K.length
      · have l1 : (j : Int) < (d.K.length : Int) := by omega
        obtain ⟨x, hx⟩ : ∃ x, d.K[j]? = some x := ⟨_, List.getElem?_eq_getElem hlt⟩
        obtain ⟨b, off, rfl, _, hr⟩ := (HI.out.keep hB).k.cel hx
        have e0 : wr.cell? ⟨b, off + j * 3, none⟩ = some (.string x.1) := hr 0 _ rfl
        have e1 : wr.cell? ⟨b, off + j * 3 + 1, none⟩ = some (.string x.2.1) := hr 1 _ rfl
        have e2 : wr.cell? ⟨b, off + j * 3 + 2, none⟩ = some (.string x.2.2) := hr 2 _ rfl
        have w5i := IntWalk.i64_in ((j : Int) + 1) (by omega)
        by_cases hp : x.1 = l
        · by_cases hq : x.2.2 = s
          · have he := Lib.hid (ope_hit HR.out hx ⟨hp, hq⟩ hno.out)
            subst hp
            subst hq
            clear hx hr
            go_wp2
            exact bodyPost_ret (results_tmp2 Try.results24 _ _ _) rfl ⟨by rw [he.out]; rfl, hB⟩
          · have hn2 := Lib.hid (no8_step hx hno.out (fun h => hq h.2))
            have n1 := ne7 hq
            have n2 := beq7 hq
            subst hp
            clear hx hr
            go_wp2
            go_roundw
            case rel => exact ⟨j + 1, by omega, by go_num, iD, hB, ⟨hn2.out⟩⟩
            case measure => simp [intOf]; omega
        · have hn2 := Lib.hid (no8_step hx hno.out (fun h => hp h.1))
          have n1 := ne7 hp
          have n2 := beq7 hp
          clear hx hr
          go_wp2
          go_roundw
          case rel => exact ⟨j + 1, by omega, by go_num, iD, hB, ⟨hn2.out⟩⟩
          case measure => simp [intOf]; omega
      · have l1 : ¬ (j : Int) < (d.K.length : Int) := by omega
        obtain rfl : j = d.K.length := by omega
        rw [List.take_length] at hno
        have he := Lib.hid (ope_miss HR.out hno.out)
        clear hno
        go_wp2
        exact bodyPost_ret (results_tmp2 Try.results24 _ _ _) rfl ⟨by rw [he.out]; rfl, hB⟩
set_option maxRecDepth 100000 in
set_option maxHeartbeats 4000000 in
/-- Same, the document's own, where both are one ideal. -/
theorem same8_any (d : Ide) (A : Option Addr) (c : Nat) (A' : Option Addr) (c' : Nat) (E : Option Addr) (e : Nat) (E' : Option Addr) (e' : Nat) (w : World) (h : InI w d A c A' c') (h' : InI w d E e E' e') :
    Calls Try.prog 12 #[ideV d A c A' c', ideV d E e E' e'] w fun r w' => r = .returned (.bool true) ∧ Below w.heap.size w w' := by
  have HA := Lib.hid h
  have HE := Lib.hid h'
  have hfN := h.fit
  have hfK := h.fitK
  clear h h'
  obtain ⟨W1, hW1⟩ : ∃ W, W = (w.alloc (.cells (ideL d A c A' c') 30)).alloc (.cells (ideL d E e E' e') 30) := ⟨_, rfl⟩
  have iA : Is W1 w.heap.size 30 (ideL d A c A' c') := by rw [hW1]; exact heap_alloc2_old w _ _
  have iB : Is W1 (w.heap.size + 1) 30 (ideL d E e E' e') := by rw [hW1]; exact heap_alloc2_new w _ _
  have hB : Below w.heap.size w W1 := by rw [hW1]; exact ((Below.refl _ _).alloc (Nat.le_refl _) _).alloc (by simp) _
  go_enter Try.func12, Try.ntmps12
  go_wp2_with fail
  rw [← hW1]
  clear hW1
  have p0 : W1.cell? ⟨w.heap.size, 0, none⟩ = some (.string d.B) := iA.cell 0
  have p1 : W1.cell? ⟨w.heap.size, 1, none⟩ = some (.int .i64 d.a) := iA.cell 1
  have p2 : W1.cell? ⟨w.heap.size, 2, none⟩ = some (.slice A d.N.length c) := iA.cell 2
  have p3 : W1.cell? ⟨w.heap.size, 3, none⟩ = some (.slice A' d.K.length c') := iA.cell 3
  have p4 : W1.cell? ⟨w.heap.size, 4, none⟩ = some (.bool d.c) := iA.cell 4
  have q0 : W1.cell? ⟨w.heap.size + 1, 0, none⟩ = some (.string d.B) := iB.cell 0
  have q1 : W1.cell? ⟨w.heap.size + 1, 1, none⟩ = some (.int .i64 d.a) := iB.cell 1
  have q2 : W1.cell? ⟨w.heap.size + 1, 2, none⟩ = some (.slice E d.N.length e) := iB.cell 2
  have q3 : W1.cell? ⟨w.heap.size + 1, 3, none⟩ = some (.slice E' d.K.length e') := iB.cell 3
  have q4 : W1.cell? ⟨w.heap.size + 1, 4, none⟩ = some (.bool d.c) := iB.cell 4
  go_wp2
  clear p0 p1 p2 p3 p4 q0 q1 q2 q3 q4
  go_loopw [5] (fun i0 wr => ∃ j : Nat, j ≤ d.N.length ∧ i0 = .int .i64 (j : Int) ∧ Is wr w.heap.size 30 (ideL d A c A' c') ∧ Is wr (w.heap.size + 1) 30 (ideL d E e E' e') ∧ Below w.heap.size w wr)
    (fun i0 _ => d.N.length - (intOf i0).toNat)
  case atStart => exact ⟨0, by omega, rfl, iA, iB, hB⟩
  case round =>
    clear iA iB hB
    obtain ⟨j, hj, rfl, iA, iB, hB⟩ := hrel
    have c2 : wr.cell? ⟨w.heap.size, 2, none⟩ = some (.slice A d.N.length c) := iA.cell 2
    by_cases hlt : j < d.N.length
    · have l1 : (j : Int) < (d.N.length : Int) := by omega
      obtain ⟨x, hx⟩ : ∃ x, d.N[j]? = some x := ⟨_, List.getElem?_eq_getElem hlt⟩
      have HX := Lib.hid hx
      obtain ⟨b, off, rfl, _, _⟩ := (HA.out.keep hB).n.nam hx
      obtain ⟨g, pff, rfl, _, _⟩ := (HE.out.keep hB).n.nam hx
      have w5i := IntWalk.i64_in ((j : Int) + 1) (by omega)
      clear hx
      go_wp2
      refine wp_region_held_drew (S := fun W => Is W w.heap.size 30 (ideL d (some ⟨b, off, none⟩) c A' c') ∧ Is W (w.heap.size + 1) 30 (ideL d (some ⟨g, pff, none⟩) e E' e') ∧ Below w.heap.size w W) (by kernel_rfl) ⟨iA, iB, belowN hB 1⟩ (fun hS => ?_)
      change wpAnyH _ _ (opsOf Try.f12 6) _ _ 11 (Array.replicate 11 false) _ _
      clear hS
      refine wpAnyH_pure (i := 0) (o := { dst := some 44, op := Op.fieldAddr 30 (Operand.tmp 2) 1, type := 0, pos := "ref.go:137", after := #[], guard := none }) (v := .pointer (some ⟨w.heap.size, 2, none⟩)) (by kernel_rfl) (by kernel_rfl) (by kernel_rfl) (by kernel_rfl) (fun _ _ _ h => h) (by kernel_rfl) (fun w hSw => by go_simp) ⟨iA, iB, belowN hB 1⟩ ?_
      simp only [Act.put, List.setIfInBounds_toArray, List.set_cons_succ, List.set_cons_zero]
      refine wpAnyH_pure (i := 1) (o := { dst := some 45, op := Op.load 27 (Operand.tmp 44), type := 27, pos := "ref.go:137", after := #[{ on := 0, ground := Ground.data }], guard := none }) (v := .slice (some ⟨b, off, none⟩) d.N.length c) (by kernel_rfl) (by kernel_rfl) (by kernel_rfl) (by kernel_rfl) (fun _ _ _ h => h) (by kernel_rfl) (fun w hSw => by (have hc := hSw.1.cell 2; go_simp)) ⟨iA, iB, belowN hB 1⟩ ?_
      simp only [Act.put, List.setIfInBounds_toArray, List.set_cons_succ, List.set_cons_zero]
      refine wpAnyH_pure (i := 2) (o := { dst := some 46, op := Op.move (Operand.tmp 5), type := 3, pos := "ref.go:137", after := #[], guard := none }) (v := .int .i64 (j : Int)) (by kernel_rfl) (by kernel_rfl) (by kernel_rfl) (by kernel_rfl) (fun _ _ _ h => h) (by kernel_rfl) (fun w hSw => by kernel_rfl) ⟨iA, iB, belowN hB 1⟩ ?_
      simp only [Act.put, List.setIfInBounds_toArray, List.set_cons_succ, List.set_cons_zero]
      refine wpAnyH_pure (i := 3) (o := { dst := some 47, op := Op.indexAddr 27 (Operand.tmp 45) (Operand.tmp 46), type := 0, pos := "ref.go:137", after := #[{ on := 1, ground := Ground.data }, { on := 2, ground := Ground.data }], guard := none }) (v := .pointer (some ⟨b, off + j * 2, none⟩)) (by kernel_rfl) (by kernel_rfl) (by kernel_rfl) (by kernel_rfl) (fun _ _ _ h => h) (by kernel_rfl) (fun w hSw => by go_simp) ⟨iA, iB, belowN hB 1⟩ ?_
      simp only [Act.put, List.setIfInBounds_toArray, List.set_cons_succ, List.set_cons_zero]
      refine wpAnyH_pure (i := 4) (o := { dst := some 48, op := Op.load 55 (Operand.tmp 47), type := 55, pos := "ref.go:137", after := #[{ on := 3, ground := Ground.data }], guard := none }) (v := .agg #[.string x.1, .string x.2]) (by kernel_rfl) (by kernel_rfl) (by kernel_rfl) (by kernel_rfl) (fun _ _ _ h => h) (by kernel_rfl) (fun w hSw => by (obtain ⟨b1, off1, e1, _, hr⟩ := (HA.out.keep hSw.2.2).n.nam HX.out; cases e1; exact exec_load rfl rfl (run_loadVar_mid _ _ _ 55 [.string x.1, .string x.2] _ hr Try.underlying55 rfl infoNam))) ⟨iA, iB, belowN hB 1⟩ ?_
      simp only [Act.put, List.setIfInBounds_toArray, List.set_cons_succ, List.set_cons_zero]
      refine wpAnyH_pure (i := 5) (o := { dst := some 49, op := Op.fieldAddr 30 (Operand.tmp 3) 1, type := 0, pos := "ref.go:137", after := #[], guard := none }) (v := .pointer (some ⟨w.heap.size + 1, 2, none⟩)) (by kernel_rfl) (by kernel_rfl) (by kernel_rfl) (by kernel_rfl) (fun _ _ _ h => h) (by kernel_rfl) (fun w hSw => by go_simp) ⟨iA, iB, belowN hB 1⟩ ?_
      simp only [Act.put, List.setIfInBounds_toArray, List.set_cons_succ, List.set_cons_zero]
      refine wpAnyH_pure (i := 6) (o := { dst := some 50, op := Op.load 27 (Operand.tmp 49), type := 27, pos := "ref.go:137", after := #[{ on := 5, ground := Ground.data }], guard := none }) (v := .slice (some ⟨g, pff, none⟩) d.N.length e) (by kernel_rfl) (by kernel_rfl) (by kernel_rfl) (by kernel_rfl) (fun _ _ _ h => h) (by kernel_rfl) (fun w hSw => by (have hc := hSw.2.1.cell 2; go_simp)) ⟨iA, iB, belowN hB 1⟩ ?_
      simp only [Act.put, List.setIfInBounds_toArray, List.set_cons_succ, List.set_cons_zero]
      refine wpAnyH_pure (i := 7) (o := { dst := some 51, op := Op.move (Operand.tmp 5), type := 3, pos := "ref.go:137", after := #[], guard := none }) (v := .int .i64 (j : Int)) (by kernel_rfl) (by kernel_rfl) (by kernel_rfl) (by kernel_rfl) (fun _ _ _ h => h) (by kernel_rfl) (fun w hSw => by kernel_rfl) ⟨iA, iB, belowN hB 1⟩ ?_
      simp only [Act.put, List.setIfInBounds_toArray, List.set_cons_succ, List.set_cons_zero]
      refine wpAnyH_pure (i := 8) (o := { dst := some 52, op := Op.indexAddr 27 (Operand.tmp 50) (Operand.tmp 51), type := 0, pos := "ref.go:137", after := #[{ on := 6, ground := Ground.data }, { on := 7, ground := Ground.data }], guard := none }) (v := .pointer (some ⟨g, pff + j * 2, none⟩)) (by kernel_rfl) (by kernel_rfl) (by kernel_rfl) (by kernel_rfl) (fun _ _ _ h => h) (by kernel_rfl) (fun w hSw => by go_simp) ⟨iA, iB, belowN hB 1⟩ ?_
      simp only [Act.put, List.setIfInBounds_toArray, List.set_cons_succ, List.set_cons_zero]
      refine wpAnyH_pure (i := 9) (o := { dst := some 53, op := Op.load 55 (Operand.tmp 52), type := 55, pos := "ref.go:137", after := #[{ on := 8, ground := Ground.data }], guard := none }) (v := .agg #[.string x.1, .string x.2]) (by kernel_rfl) (by kernel_rfl) (by kernel_rfl) (by kernel_rfl) (fun _ _ _ h => h) (by kernel_rfl) (fun w hSw => by (obtain ⟨b1, off1, e1, _, hr⟩ := (HE.out.keep hSw.2.2).n.nam HX.out; cases e1; exact exec_load rfl rfl (run_loadVar_mid _ _ _ 55 [.string x.1, .string x.2] _ hr Try.underlying55 rfl infoNam))) ⟨iA, iB, belowN hB 1⟩ ?_
      simp only [Act.put, List.setIfInBounds_toArray, List.set_cons_succ, List.set_cons_zero]
      refine wpAnyH_pure (i := 10) (o := { dst := some 54, op := Op.binOp BinOp.neq 55 (Operand.tmp 48) (Operand.tmp 53) 55, type := 4, pos := "ref.go:137", after := #[{ on := 4, ground := Ground.data }, { on := 9, ground := Ground.data }], guard := none }) (v := .bool false) (by kernel_rfl) (by kernel_rfl) (by kernel_rfl) (by kernel_rfl) (fun _ _ _ h => h) (by kernel_rfl) (fun w hSw => by go_simp) ⟨iA, iB, belowN hB 1⟩ ?_
      simp only [Act.put, List.setIfInBounds_toArray, List.set_cons_succ, List.set_cons_zero]
      refine wpAnyH_done (by kernel_rfl) ?_ _
      go_wp2
      go_roundw
      case rel => exact ⟨j + 1, by omega, by go_num, iA.drewN 1, iB.drewN 1, belowN hB 1⟩
      case measure => simp [intOf]; omega
    · have l1 : ¬ (j : Int) < (d.N.length : Int) := by omega
      obtain rfl : j = d.N.length := by omega
      clear c2
      have c3 : wr.cell? ⟨w.heap.size, 3, none⟩ = some (.slice A' d.K.length c') := iA.cell 3
      have c2 : wr.cell? ⟨w.heap.size, 2, none⟩ = some (.slice A d.N.length c) := iA.cell 2
      go_wp2
      clear c2 c3
      go_loopw [6] (fun i0 wr => ∃ j : Nat, j ≤ d.K.length ∧ i0 = .int .i64 (j : Int) ∧ Is wr w.heap.size 30 (ideL d A c A' c') ∧ Is wr (w.heap.size + 1) 30 (ideL d E e E' e') ∧ Below w.heap.size w wr)
        (fun i0 _ => d.K.length - (intOf i0).toNat)
      case atStart => exact ⟨0, by omega, rfl, iA, iB, hB⟩
      case round =>
        clear iA iB hB
        obtain ⟨j, hj, rfl, iA, iB, hB⟩ := hrel
        have c2 : wr.cell? ⟨w.heap.size, 3, none⟩ = some (.slice A' d.K.length c') := iA.cell 3
        by_cases hlt : j < d.K.length
        · have l1 : (j : Int) < (d.K.length : Int) := by omega
          obtain ⟨x, hx⟩ : ∃ x, d.K[j]? = some x := ⟨_, List.getElem?_eq_getElem hlt⟩
          have HX := Lib.hid hx
          obtain ⟨b, off, rfl, _, _⟩ := (HA.out.keep hB).k.cel hx
          obtain ⟨g, pff, rfl, _, _⟩ := (HE.out.keep hB).k.cel hx
          have w5i := IntWalk.i64_in ((j : Int) + 1) (by omega)
          clear hx
          go_wp2
          refine wp_region_held_drew (S := fun W => Is W w.heap.size 30 (ideL d A c (some ⟨b, off, none⟩) c') ∧ Is W (w.heap.size + 1) 30 (ideL d E e (some ⟨g, pff, none⟩) e') ∧ Below w.heap.size w W) (by kernel_rfl) ⟨iA, iB, belowN hB 1⟩ (fun hS => ?_)
          change wpAnyH _ _ (opsOf Try.f12 11) _ _ 11 (Array.replicate 11 false) _ _
          clear hS
          refine wpAnyH_pure (i := 0) (o := { dst := some 62, op := Op.fieldAddr 30 (Operand.tmp 2) 2, type := 0, pos := "ref.go:142", after := #[], guard := none }) (v := .pointer (some ⟨w.heap.size, 3, none⟩)) (by kernel_rfl) (by kernel_rfl) (by kernel_rfl) (by kernel_rfl) (fun _ _ _ h => h) (by kernel_rfl) (fun w hSw => by go_simp) ⟨iA, iB, belowN hB 1⟩ ?_
          simp only [Act.put, List.setIfInBounds_toArray, List.set_cons_succ, List.set_cons_zero]
          refine wpAnyH_pure (i := 1) (o := { dst := some 63, op := Op.load 28 (Operand.tmp 62), type := 28, pos := "ref.go:142", after := #[{ on := 0, ground := Ground.data }], guard := none }) (v := .slice (some ⟨b, off, none⟩) d.K.length c') (by kernel_rfl) (by kernel_rfl) (by kernel_rfl) (by kernel_rfl) (fun _ _ _ h => h) (by kernel_rfl) (fun w hSw => by (have hc := hSw.1.cell 3; go_simp)) ⟨iA, iB, belowN hB 1⟩ ?_
          simp only [Act.put, List.setIfInBounds_toArray, List.set_cons_succ, List.set_cons_zero]
          refine wpAnyH_pure (i := 2) (o := { dst := some 64, op := Op.move (Operand.tmp 6), type := 3, pos := "ref.go:142", after := #[], guard := none }) (v := .int .i64 (j : Int)) (by kernel_rfl) (by kernel_rfl) (by kernel_rfl) (by kernel_rfl) (fun _ _ _ h => h) (by kernel_rfl) (fun w hSw => by kernel_rfl) ⟨iA, iB, belowN hB 1⟩ ?_
          simp only [Act.put, List.setIfInBounds_toArray, List.set_cons_succ, List.set_cons_zero]
          refine wpAnyH_pure (i := 3) (o := { dst := some 65, op := Op.indexAddr 28 (Operand.tmp 63) (Operand.tmp 64), type := 0, pos := "ref.go:142", after := #[{ on := 1, ground := Ground.data }, { on := 2, ground := Ground.data }], guard := none }) (v := .pointer (some ⟨b, off + j * 3, none⟩)) (by kernel_rfl) (by kernel_rfl) (by kernel_rfl) (by kernel_rfl) (fun _ _ _ h => h) (by kernel_rfl) (fun w hSw => by go_simp) ⟨iA, iB, belowN hB 1⟩ ?_
          simp only [Act.put, List.setIfInBounds_toArray, List.set_cons_succ, List.set_cons_zero]
          refine wpAnyH_pure (i := 4) (o := { dst := some 66, op := Op.load 57 (Operand.tmp 65), type := 57, pos := "ref.go:142", after := #[{ on := 3, ground := Ground.data }], guard := none }) (v := .agg #[.string x.1, .string x.2.1, .string x.2.2]) (by kernel_rfl) (by kernel_rfl) (by kernel_rfl) (by kernel_rfl) (fun _ _ _ h => h) (by kernel_rfl) (fun w hSw => by (obtain ⟨b1, off1, e1, _, hr⟩ := (HA.out.keep hSw.2.2).k.cel HX.out; cases e1; exact exec_load rfl rfl (run_loadVar_mid _ _ _ 57 [.string x.1, .string x.2.1, .string x.2.2] _ hr Try.underlying57 rfl infoMad))) ⟨iA, iB, belowN hB 1⟩ ?_
          simp only [Act.put, List.setIfInBounds_toArray, List.set_cons_succ, List.set_cons_zero]
          refine wpAnyH_pure (i := 5) (o := { dst := some 67, op := Op.fieldAddr 30 (Operand.tmp 3) 2, type := 0, pos := "ref.go:142", after := #[], guard := none }) (v := .pointer (some ⟨w.heap.size + 1, 3, none⟩)) (by kernel_rfl) (by kernel_rfl) (by kernel_rfl) (by kernel_rfl) (fun _ _ _ h => h) (by kernel_rfl) (fun w hSw => by go_simp) ⟨iA, iB, belowN hB 1⟩ ?_
          simp only [Act.put, List.setIfInBounds_toArray, List.set_cons_succ, List.set_cons_zero]
          refine wpAnyH_pure (i := 6) (o := { dst := some 68, op := Op.load 28 (Operand.tmp 67), type := 28, pos := "ref.go:142", after := #[{ on := 5, ground := Ground.data }], guard := none }) (v := .slice (some ⟨g, pff, none⟩) d.K.length e') (by kernel_rfl) (by kernel_rfl) (by kernel_rfl) (by kernel_rfl) (fun _ _ _ h => h) (by kernel_rfl) (fun w hSw => by (have hc := hSw.2.1.cell 3; go_simp)) ⟨iA, iB, belowN hB 1⟩ ?_
          simp only [Act.put, List.setIfInBounds_toArray, List.set_cons_succ, List.set_cons_zero]
          refine wpAnyH_pure (i := 7) (o := { dst := some 69, op := Op.move (Operand.tmp 6), type := 3, pos := "ref.go:142", after := #[], guard := none }) (v := .int .i64 (j : Int)) (by kernel_rfl) (by kernel_rfl) (by kernel_rfl) (by kernel_rfl) (fun _ _ _ h => h) (by kernel_rfl) (fun w hSw => by kernel_rfl) ⟨iA, iB, belowN hB 1⟩ ?_
          simp only [Act.put, List.setIfInBounds_toArray, List.set_cons_succ, List.set_cons_zero]
          refine wpAnyH_pure (i := 8) (o := { dst := some 70, op := Op.indexAddr 28 (Operand.tmp 68) (Operand.tmp 69), type := 0, pos := "ref.go:142", after := #[{ on := 6, ground := Ground.data }, { on := 7, ground := Ground.data }], guard := none }) (v := .pointer (some ⟨g, pff + j * 3, none⟩)) (by kernel_rfl) (by kernel_rfl) (by kernel_rfl) (by kernel_rfl) (fun _ _ _ h => h) (by kernel_rfl) (fun w hSw => by go_simp) ⟨iA, iB, belowN hB 1⟩ ?_
          simp only [Act.put, List.setIfInBounds_toArray, List.set_cons_succ, List.set_cons_zero]
          refine wpAnyH_pure (i := 9) (o := { dst := some 71, op := Op.load 57 (Operand.tmp 70), type := 57, pos := "ref.go:142", after := #[{ on := 8, ground := Ground.data }], guard := none }) (v := .agg #[.string x.1, .string x.2.1, .string x.2.2]) (by kernel_rfl) (by kernel_rfl) (by kernel_rfl) (by kernel_rfl) (fun _ _ _ h => h) (by kernel_rfl) (fun w hSw => by (obtain ⟨b1, off1, e1, _, hr⟩ := (HE.out.keep hSw.2.2).k.cel HX.out; cases e1; exact exec_load rfl rfl (run_loadVar_mid _ _ _ 57 [.string x.1, .string x.2.1, .string x.2.2] _ hr Try.underlying57 rfl infoMad))) ⟨iA, iB, belowN hB 1⟩ ?_
          simp only [Act.put, List.setIfInBounds_toArray, List.set_cons_succ, List.set_cons_zero]
          refine wpAnyH_pure (i := 10) (o := { dst := some 72, op := Op.binOp BinOp.neq 57 (Operand.tmp 66) (Operand.tmp 71) 57, type := 4, pos := "ref.go:142", after := #[{ on := 4, ground := Ground.data }, { on := 9, ground := Ground.data }], guard := none }) (v := .bool false) (by kernel_rfl) (by kernel_rfl) (by kernel_rfl) (by kernel_rfl) (fun _ _ _ h => h) (by kernel_rfl) (fun w hSw => by go_simp) ⟨iA, iB, belowN hB 1⟩ ?_
          simp only [Act.put, List.setIfInBounds_toArray, List.set_cons_succ, List.set_cons_zero]
          refine wpAnyH_done (by kernel_rfl) ?_ _
          go_wp2
          go_roundw
          case rel => exact ⟨j + 1, by omega, by go_num, iA.drewN 1, iB.drewN 1, belowN hB 1⟩
          case measure => simp [intOf]; omega
        · have l1 : ¬ (j : Int) < (d.K.length : Int) := by omega
          obtain rfl : j = d.K.length := by omega
          go_wp2
          go_ret
          exact ⟨rfl, hB⟩
end Go.Proofs.Ytdbdoammbnogaaa
