/-
  Layer 8: contracts of ideal.New and ideal.Open, the program's, whatever they are asked. Condition (Open): the ideal's lists lie where the slices point to.
-/
import Derived.Test.YtdbdoammbnogaaaIdeH
import Derived.Test.YtdbdoammbnogaaaIdeJ
namespace Go.Proofs.Ytdbdoammbnogaaa
open Go.RowKit Go.Shelf

/-- an ideal of nothing. -/
abbrev zer8 : Array Value := #[.string ⟨#[]⟩, .int .i64 0, .slice none 0 0, .slice none 0 0, .bool false]
theorem find8_find {κ α : Type} [DecidableEq κ] (f : α → κ × ByteArray) (l : List α) (k : κ) : find8 (l.map f) k = match l.find? (fun x => decide ((f x).1 = k)) with | some x => ((f x).2, true) | none => (⟨#[]⟩, false) := by
  rw [find8, List.find?_map]
  show (match (l.find? fun x => decide ((f x).1 = k)).map f with | some x => (x.2, true) | none => (⟨#[]⟩, false)) = _
  cases l.find? fun x => decide ((f x).1 = k) <;> rfl
theorem ope8_of {d : Ide} {l c : ByteArray} (h : right8 d = true) : ope8 d l c = if (find8 (d.K.map opnK) (l, c)).2 then ((find8 (d.K.map opnK) (l, c)).1, 0) else (⟨#[]⟩, 11) := by
  rw [ope8, if_pos h, find8_find]
  have e : (fun x : Cel8 => decide ((opnK x).1 = (l, c))) = fun x => decide (x.1 = l) && decide (x.2.2 = c) := by
    funext x
    simp [opnK]
  rw [e]
  cases d.K.find? fun x => decide (x.1 = l) && decide (x.2.2 = c) <;> rfl
section
variable {w W : World} {d : Ide} {A : Option Addr} {c : Nat} {A' : Option Addr} {c' : Nat} (h : InI w d A c A' c') (Bd : Nat) (hb : Below w.heap.size w W) (hBd : Is W Bd 30 (ideL d A c A' c'))
include h hb hBd
theorem InI.fiO (s : ByteArray) : Calls Try.prog 28 #[.func (.func 48) #[] #[.pointer (some ⟨Bd, 0, none⟩)], .string s] W fun e w' => e = .returned (.tuple #[.string (find8 (d.N.map outN) s).1, .bool (find8 (d.N.map outN) s).2]) ∧ Below W.heap.size W w' :=
  findS_any 48 #[.pointer (some ⟨Bd, 0, none⟩)] (d.N.map outN) s W (enters_of Try.func48 (by kernel_rfl) rfl) (h.seqO 4 Bd hb hBd (by omega))
theorem InI.fiN (s : ByteArray) : Calls Try.prog 28 #[.func (.func 44) #[] #[.pointer (some ⟨Bd, 0, none⟩)], .string s] W fun e w' => e = .returned (.tuple #[.string (find8 d.N s).1, .bool (find8 d.N s).2]) ∧ Below W.heap.size W w' :=
  findS_any 44 #[.pointer (some ⟨Bd, 0, none⟩)] d.N s W (enters_of Try.func44 (by kernel_rfl) rfl) (h.seqN 4 Bd hb hBd (by omega))
theorem InI.fiK (s1 s2 : ByteArray) : Calls Try.prog 41 #[.func (.func 50) #[] #[.pointer (some ⟨Bd, 0, none⟩)], .agg #[.string s1, .string s2]] W fun e w' => e = .returned (.tuple #[.string (find8 (d.K.map askK) (s1, s2)).1, .bool (find8 (d.K.map askK) (s1, s2)).2]) ∧ Below W.heap.size W w' :=
  findK_any 50 #[.pointer (some ⟨Bd, 0, none⟩)] (d.K.map askK) s1 s2 W (enters_of Try.func50 (by kernel_rfl) rfl) (h.seqK 4 Bd hb hBd (by omega))
theorem InI.fiT (s1 s2 : ByteArray) : Calls Try.prog 42 #[.func (.func 52) #[] #[.pointer (some ⟨Bd, 0, none⟩)], .agg #[.string s1, .string s2]] W fun e w' => e = .returned (.tuple #[.string (find8 (d.K.map opnK) (s1, s2)).1, .bool (find8 (d.K.map opnK) (s1, s2)).2]) ∧ Below W.heap.size W w' :=
  findO_any 52 #[.pointer (some ⟨Bd, 0, none⟩)] (d.K.map opnK) s1 s2 W (enters_of Try.func52 (by kernel_rfl) rfl) (h.seqT 4 Bd hb hBd (by omega))
end

set_option maxRecDepth 100000 in
set_option maxHeartbeats 2000000 in
theorem new_any (B : ByteArray) (a : Int) (w : World) :
    Calls Try.prog 10 #[.agg #[.string B, .int .i64 a]] w fun e w' => e = .returned (.tuple #[ideV (new8 B a).1 none 0 none 0, .int .i64 (new8 B a).2]) ∧ Below w.heap.size w w' := by
  have C := Lib.hid (tright_any B a)
  obtain ⟨W1, hW1⟩ : ∃ W, W = (w.alloc (.cells #[.string B, .int .i64 a] 26)).alloc (.cells zer8 30) := ⟨_, rfl⟩
  have i1 : Is W1 w.heap.size 26 #[.string B, .int .i64 a] := by rw [hW1]; exact heap_alloc2_old w _ _
  have i2 : Is W1 (w.heap.size + 1) 30 zer8 := by rw [hW1]; exact heap_alloc2_new w _ _
  have hB : Below w.heap.size w W1 := by rw [hW1]; exact ((Below.refl _ _).alloc (Nat.le_refl _) _).alloc (by simp) _
  have k0 : W1.cell? ⟨w.heap.size, 0, none⟩ = some (.string B) := i1.cell 0
  have k1 : W1.cell? ⟨w.heap.size, 1, none⟩ = some (.int .i64 a) := i1.cell 1
  cases hr : rightV B a with
  | false =>
    have hz : new8 B a = (⟨⟨#[]⟩, 0, [], [], false⟩, 1) := by rw [new8, hr]; rfl
    rw [hz]
    rw [hr] at C
    clear hz hr
    go_enter Try.func10, Try.ntmps10
    go_wp2_with fail
    rw [← hW1]
    clear hW1
    go_wp2_with fail
    refine (C.out _).mono ?_
    rintro e W2 ⟨rfl, hb⟩
    have j2 := i2.below hb i2.lt
    have hB2 := hB.trans (hb.mono hB.size)
    clear k0 k1
    go_wp2_with (first | (refine wpList_store_row rfl 30 _ _ rfl (w.heap.size + 1) zer8 rfl rfl 30 _ j2 infoIde rfl (by rw [← Array.all_toList]; rfl) ?_))
    exact bodyPost_ret (results_row_tmp Try.results10 _ _ (w.heap.size + 1) 30 _ (0, 0) _ rfl (j2.row _) Try.underlying30 rfl infoIde) rfl ⟨rfl, belowRow hB2 (by simp) _⟩
  | true =>
    have hz : new8 B a = (⟨B, a, [], [], false⟩, 0) := by rw [new8, hr]; rfl
    rw [hz]
    rw [hr] at C
    clear hz hr
    go_enter Try.func10, Try.ntmps10
    go_wp2_with fail
    rw [← hW1]
    clear hW1
    go_wp2_with fail
    refine (C.out _).mono ?_
    rintro e W2 ⟨rfl, hb⟩
    have j1 := i1.below hb i1.lt
    have j2 := i2.below hb i2.lt
    have hB2 := hB.trans (hb.mono hB.size)
    clear k0 k1
    have k0 : W2.cell? ⟨w.heap.size, 0, none⟩ = some (.string B) := j1.cell 0
    have k1 : W2.cell? ⟨w.heap.size, 1, none⟩ = some (.int .i64 a) := j1.cell 1
    go_wp2_with (first | (refine wpList_store_row rfl 30 _ _ rfl (w.heap.size + 1) #[.string B, .int .i64 a, .slice none 0 0, .slice none 0 0, .bool false] rfl rfl 30 _ j2 infoIde rfl (by rw [← Array.all_toList]; rfl) ?_))
    exact bodyPost_ret (results_row_tmp Try.results10 _ _ (w.heap.size + 1) 30 _ (0, 0) _ rfl (j2.row _) Try.underlying30 rfl infoIde) rfl ⟨rfl, belowRow hB2 (by simp) _⟩
set_option maxRecDepth 100000 in
set_option maxHeartbeats 2000000 in
theorem open_any (d : Ide) (A : Option Addr) (c : Nat) (A' : Option Addr) (c' : Nat) (l s : ByteArray) (w : World) (h : InI w d A c A' c') :
    Calls Try.prog 23 #[ideV d A c A' c', .string l, .string s] w fun e w' => e = .returned (.tuple #[.string (ope8 d l s).1, .int .i64 (ope8 d l s).2]) ∧ Below w.heap.size w w' := by
  have HI := Lib.hid h
  have C := Lib.hid (fun (W : World) (hw : InI W d A c A' c') => right_any d A c A' c' W hw)
  clear h
  obtain ⟨W1, hW1⟩ : ∃ W, W = w.alloc (.cells (ideL d A c A' c') 30) := ⟨_, rfl⟩
  have i1 : Is W1 w.heap.size 30 (ideL d A c A' c') := by rw [hW1]; exact Is.new _ _ _
  have hB : Below w.heap.size w W1 := by rw [hW1]; exact (Below.refl _ _).alloc (Nat.le_refl _) _
  cases hr : right8 d with
  | false =>
    have hz : ope8 d l s = (⟨#[]⟩, 1) := by rw [ope8, hr]; rfl
    rw [hz]
    rw [hr] at C
    clear hz hr
    go_enter Try.func23, Try.ntmps23
    go_wp2_with fail
    rw [← hW1]
    clear hW1
    go_wp2_with (refine wpList_load_row rfl 30 _ rfl w.heap.size rfl 30 _ (0, 0) _ i1 Try.underlying30 rfl infoIde ?_)
    refine (C.out _ (HI.out.keep hB)).mono ?_
    rintro e W2 ⟨rfl, hb⟩
    go_wp2
    exact bodyPost_ret (results_tmp2 Try.results23 _ _ _) rfl ⟨rfl, hB.trans (hb.mono hB.size)⟩
  | true =>
    have hz := ope8_of (l := l) (c := s) hr
    have CF := Lib.hid (fun (W : World) (Bd : Nat) (hb : Below w.heap.size w W) (hBd : Is W Bd 30 (ideL d A c A' c')) => HI.out.fiT Bd hb hBd l s)
    rw [hz]
    rw [hr] at C
    clear hz hr
    generalize find8 (d.K.map opnK) (l, s) = F at *
    obtain ⟨x, is⟩ := F
    cases is with
    | false =>
      go_enter Try.func23, Try.ntmps23
      go_wp2_with fail
      rw [← hW1]
      clear hW1
      go_wp2_with (refine wpList_load_row rfl 30 _ rfl w.heap.size rfl 30 _ (0, 0) _ i1 Try.underlying30 rfl infoIde ?_)
      refine (C.out _ (HI.out.keep hB)).mono ?_
      rintro e W2 ⟨rfl, hb⟩
      have j1 := i1.below hb i1.lt
      have hB2 := hB.trans (hb.mono hB.size)
      go_wp2_with (refine wpList_load_row rfl 30 _ rfl w.heap.size rfl 30 _ (0, 0) _ j1 Try.underlying30 rfl infoIde ?_)
      refine (texts_any _ _ _ _ _ _).mono ?_
      rintro e W3 ⟨rfl, rfl⟩
      have k1 : Is (W2.alloc (.cells (ideL d A c A' c') 30)) W2.heap.size 30 (ideL d A c A' c') := Is.new _ _ _
      have hB3 := hB2.alloc hB2.size (.cells (ideL d A c A' c') 30)
      go_wp2_with fail
      refine (CF.out _ _ hB3 k1).mono ?_
      rintro e W4 ⟨rfl, hb4⟩
      go_wp2
      exact bodyPost_ret (results_tmp2 Try.results23 _ _ _) rfl ⟨rfl, hB3.trans (hb4.mono hB3.size)⟩
    | true =>
      go_enter Try.func23, Try.ntmps23
      go_wp2_with fail
      rw [← hW1]
      clear hW1
      go_wp2_with (refine wpList_load_row rfl 30 _ rfl w.heap.size rfl 30 _ (0, 0) _ i1 Try.underlying30 rfl infoIde ?_)
      refine (C.out _ (HI.out.keep hB)).mono ?_
      rintro e W2 ⟨rfl, hb⟩
      have j1 := i1.below hb i1.lt
      have hB2 := hB.trans (hb.mono hB.size)
      go_wp2_with (refine wpList_load_row rfl 30 _ rfl w.heap.size rfl 30 _ (0, 0) _ j1 Try.underlying30 rfl infoIde ?_)
      refine (texts_any _ _ _ _ _ _).mono ?_
      rintro e W3 ⟨rfl, rfl⟩
      have k1 : Is (W2.alloc (.cells (ideL d A c A' c') 30)) W2.heap.size 30 (ideL d A c A' c') := Is.new _ _ _
      have hB3 := hB2.alloc hB2.size (.cells (ideL d A c A' c') 30)
      go_wp2_with fail
      refine (CF.out _ _ hB3 k1).mono ?_
      rintro e W4 ⟨rfl, hb4⟩
      go_wp2
      exact bodyPost_ret (results_tmp2 Try.results23 _ _ _) rfl ⟨rfl, hB3.trans (hb4.mono hB3.size)⟩
end Go.Proofs.Ytdbdoammbnogaaa
