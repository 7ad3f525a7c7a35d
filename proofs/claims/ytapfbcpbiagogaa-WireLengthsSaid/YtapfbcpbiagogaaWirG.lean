/-
  Contracts of package wire's reader: readerOf, number, list, end, next at numbers and lists.
-/
import Derived.Test.YtapfbcpbiagogaaWirE
import Derived.Test.YtapfbcpbiagogaaCodY
import Derived.Deep.MidRow
import Derived.Maps.AppendAt
namespace Go.Proofs.Ytapfbcpbiagogaa
open Go.RowKit Go.Shelf

def rdr11 (B : ByteArray) (a e : Int) : Array Value := #[.string B, .int .i64 a, .int .i64 e]
/-- the next number, the next list, unless there was an error; the end. -/
def nxN11 (B : ByteArray) (a e : Int) : Int × Int × Int := if e = 0 then tnV10 B a else (0, a, e)
def nxL11 (B : ByteArray) (a e : Int) : List ByteArray × Int × Int := if e = 0 then tlV10 B a else ([], a, e)
def nxE11 (B : ByteArray) (a e : Int) : Int := if e = 0 then endV10 B a else e
theorem setCells_two11 {W : World} {g : Nat} {t : TypeId} {x y z : Value} (h : Is W g t #[x, y, z]) (u v : Value) : Is (W.setCells g 0 [u, v]) g t #[u, v, z] := (h.set 0 u).set 1 v
theorem grown_two11 {W : World} {g : Nat} (u v : Value) : W.grownBy (W.setCells g 0 [u, v]) (some g) := (grownSetG W ⟨g, 0, none⟩ u).trans (grownSetG _ ⟨g, 1, none⟩ v)
theorem there_two11 {W : World} {g : Nat} {t : TypeId} {x y z : Value} (h : Is W g t #[x, y, z]) : W.there g 0 2 := fun j hj => by
  rw [Nat.zero_add, h.cell]
  refine ⟨?_, h.frozen _⟩
  match j, hj with
  | 0, _ => rfl
  | 1, _ => rfl
/-- what takes nothing of a block but its own. -/
theorem grown_below11 {W W' : World} {g : Nat} (hb : Below W.heap.size W W') : W.grownBy W' (some g) := ⟨hb.os, hb.tape, hb.output, hb.size, fun k hk _ => hb.block k hk⟩

theorem World.grownBy_refl11 (w : World) (r : Option Nat) : w.grownBy w r := ⟨rfl, rfl, rfl, Nat.le_refl _, fun _ _ _ => rfl⟩
set_option maxRecDepth 100000 in
set_option maxHeartbeats 2000000 in
theorem nextN_any11 (g : Nat) (B : ByteArray) (a e : Int) (w : World) (h : Is w g 84 (rdr11 B a e)) :
    Calls Try.prog 58 #[.pointer (some ⟨g, 0, none⟩), .func (.func 59) #[] #[]] w fun r w' => r = .returned (.int .i64 (nxN11 B a e).1) ∧ Is w' g 84 (rdr11 B (nxN11 B a e).2.1 (nxN11 B a e).2.2) ∧ w.grownBy w' (some g) := by
  have h' : Is w g 84 #[.string B, .int .i64 a, .int .i64 e] := h
  have hlt := h.lt
  have c2 : w.cell? ⟨g, 2, none⟩ = some (.int .i64 e) := h'.cell 2
  by_cases he : e = 0
  · subst he
    have HV := Lib.hid (show nxN11 B a 0 = tnV10 B a from if_pos rfl)
    have C := Lib.hid (cn_any10 B a)
    simp only [tnR10] at C
    rw [← HV.out] at C
    generalize nxN11 B a 0 = V at *
    obtain ⟨x, p, e1⟩ := V
    simp only at C ⊢
    go_enter Try.func58, Try.ntmps58
    go_wp2_with (refine wpList_load_mid rfl 64 _ rfl g 0 rfl [.string B, .int .i64 a] _ (World.rangeAt_of_block h' 0 2) Try.underlying64 rfl infoCur10 ?_)
    refine (C.out _).mono ?_
    rintro r w1 ⟨rfl, hb⟩
    have h1 := h'.below hb h'.lt
    have hg1 : w.grownBy w1 (some g) := grown_below11 hb
    have h2 : Is (w1.setCells g 0 [.string B, .int .i64 p]) g 84 #[.string B, .int .i64 p, .int .i64 0] := setCells_two11 h1 _ _
    have k2 : (w1.setCells g 0 [.string B, .int .i64 p]).cell? ⟨g, 2, none⟩ = some (.int .i64 0) := h2.cell 2
    have f2 := h2.frozen 2
    have hg2 := (hg1.trans (grown_two11 (.string B) (.int .i64 p))).trans (grownSetG (w1.setCells g 0 [.string B, .int .i64 p]) ⟨g, 2, none⟩ (.int .i64 e1))
    have h3 : Is ((w1.setCells g 0 [.string B, .int .i64 p]).setCell ⟨g, 2, none⟩ (.int .i64 e1)) g 84 (rdr11 B p e1) := h2.set 2 _
    clear c2 hb hg1
    go_wp2_with (refine wpList_store_mid (by kernel_rfl) 64 _ _ rfl g 0 rfl (cells := #[.string B, .int .i64 p]) rfl (there_two11 h1) infoCur10 (by kernel_rfl) ?_)
    go_ret
    exact ⟨rfl, h3, hg2⟩
  · have HV := Lib.hid (show nxN11 B a e = ((0 : Int), a, e) from if_neg he)
    go_enter Try.func58, Try.ntmps58
    go_wp2
    go_ret
    rw [HV.out]
    exact ⟨rfl, h, World.grownBy_refl11 _ _⟩
set_option maxRecDepth 100000 in
set_option maxHeartbeats 2000000 in
theorem nextL_any11 (g : Nat) (B : ByteArray) (a e : Int) (w : World) (h : Is w g 84 (rdr11 B a e)) :
    Calls Try.prog 60 #[.pointer (some ⟨g, 0, none⟩), .func (.func 61) #[] #[]] w fun r w' => ∃ A' c', r = .returned (.slice A' (nxL11 B a e).1.length c') ∧ Lst10 w.heap.size w' A' (nxL11 B a e).1 ∧ Is w' g 84 (rdr11 B (nxL11 B a e).2.1 (nxL11 B a e).2.2) ∧ w.grownBy w' (some g) := by
  have h' : Is w g 84 #[.string B, .int .i64 a, .int .i64 e] := h
  have hlt := h.lt
  have c2 : w.cell? ⟨g, 2, none⟩ = some (.int .i64 e) := h'.cell 2
  by_cases he : e = 0
  · subst he
    have HV := Lib.hid (show nxL11 B a 0 = tlV10 B a from if_pos rfl)
    have C := Lib.hid (cl_any10 B a)
    simp only [tlR10] at C
    rw [← HV.out] at C
    generalize nxL11 B a 0 = V at *
    obtain ⟨x, p, e1⟩ := V
    simp only at C ⊢
    go_enter Try.func60, Try.ntmps60
    go_wp2_with (refine wpList_load_mid rfl 64 _ rfl g 0 rfl [.string B, .int .i64 a] _ (World.rangeAt_of_block h' 0 2) Try.underlying64 rfl infoCur10 ?_)
    refine (C.out _).mono ?_
    rintro r w1 ⟨A', c', rfl, hL, hb⟩
    have h1 := h'.below hb h'.lt
    have hg1 : w.grownBy w1 (some g) := grown_below11 hb
    have h2 : Is (w1.setCells g 0 [.string B, .int .i64 p]) g 84 #[.string B, .int .i64 p, .int .i64 0] := setCells_two11 h1 _ _
    have k2 : (w1.setCells g 0 [.string B, .int .i64 p]).cell? ⟨g, 2, none⟩ = some (.int .i64 0) := h2.cell 2
    have f2 := h2.frozen 2
    have hg2 := (hg1.trans (grown_two11 (.string B) (.int .i64 p))).trans (grownSetG (w1.setCells g 0 [.string B, .int .i64 p]) ⟨g, 2, none⟩ (.int .i64 e1))
    have h3 : Is ((w1.setCells g 0 [.string B, .int .i64 p]).setCell ⟨g, 2, none⟩ (.int .i64 e1)) g 84 (rdr11 B p e1) := h2.set 2 _
    have hL2 : Lst10 w.heap.size ((w1.setCells g 0 [.string B, .int .i64 p]).setCell ⟨g, 2, none⟩ (.int .i64 e1)) A' x := ((hL.far (p := ⟨g, 0, none⟩) hlt _).far (p := ⟨g, 1, none⟩) hlt _).far (p := ⟨g, 2, none⟩) hlt _
    clear c2 hb hg1
    go_wp2_with (refine wpList_store_mid (by kernel_rfl) 64 _ _ rfl g 0 rfl (cells := #[.string B, .int .i64 p]) rfl (there_two11 h1) infoCur10 (by kernel_rfl) ?_)
    go_ret
    exact ⟨A', c', rfl, hL2, h3, hg2⟩
  · have HV := Lib.hid (show nxL11 B a e = (([] : List ByteArray), a, e) from if_neg he)
    go_enter Try.func60, Try.ntmps60
    go_wp2
    go_ret
    rw [HV.out]
    exact ⟨none, 0, rfl, Lst10.nil _ _, h, World.grownBy_refl11 _ _⟩

theorem rnum_any11 (g : Nat) (B : ByteArray) (a e : Int) (w : World) (h : Is w g 84 (rdr11 B a e)) :
    Calls Try.prog 35 #[.pointer (some ⟨g, 0, none⟩)] w fun r w' => r = .returned (.int .i64 (nxN11 B a e).1) ∧ Is w' g 84 (rdr11 B (nxN11 B a e).2.1 (nxN11 B a e).2.2) ∧ w.grownBy w' (some g) := by
  have C := Lib.hid (nextN_any11 g B a e w h)
  generalize nxN11 B a e = V at *
  clear h
  go_enter Try.func35, Try.ntmps35
  go_wp2_with fail
  refine C.out.mono ?_
  rintro r w1 ⟨rfl, h1, h2⟩
  go_wp2
  go_ret
  exact ⟨rfl, h1, h2⟩
theorem rlist_any11 (g : Nat) (B : ByteArray) (a e : Int) (w : World) (h : Is w g 84 (rdr11 B a e)) :
    Calls Try.prog 36 #[.pointer (some ⟨g, 0, none⟩)] w fun r w' => ∃ A' c', r = .returned (.slice A' (nxL11 B a e).1.length c') ∧ Lst10 w.heap.size w' A' (nxL11 B a e).1 ∧ Is w' g 84 (rdr11 B (nxL11 B a e).2.1 (nxL11 B a e).2.2) ∧ w.grownBy w' (some g) := by
  have C := Lib.hid (nextL_any11 g B a e w h)
  generalize nxL11 B a e = V at *
  clear h
  go_enter Try.func36, Try.ntmps36
  go_wp2_with fail
  refine C.out.mono ?_
  rintro r w1 ⟨A', c', rfl, h1, h2, h3⟩
  go_wp2
  go_ret
  exact ⟨A', c', rfl, h1, h2, h3⟩
set_option maxRecDepth 100000 in
set_option maxHeartbeats 2000000 in
theorem rend_any11 (g : Nat) (B : ByteArray) (a e : Int) (w : World) (h : Is w g 84 (rdr11 B a e)) :
    Calls Try.prog 38 #[.pointer (some ⟨g, 0, none⟩)] w fun r w' => r = .returned (.int .i64 (nxE11 B a e)) ∧ w.grownBy w' (some g) := by
  have h' : Is w g 84 #[.string B, .int .i64 a, .int .i64 e] := h
  have c2 : w.cell? ⟨g, 2, none⟩ = some (.int .i64 e) := h'.cell 2
  by_cases he : e = 0
  · subst he
    have HV := Lib.hid (show nxE11 B a 0 = endV10 B a from if_pos rfl)
    have C := Lib.hid (cend_any10 B a)
    rw [← HV.out] at C
    generalize nxE11 B a 0 = V at *
    go_enter Try.func38, Try.ntmps38
    go_wp2_with (refine wpList_load_mid rfl 64 _ rfl g 0 rfl [.string B, .int .i64 a] _ (World.rangeAt_of_block h' 0 2) Try.underlying64 rfl infoCur10 ?_)
    refine (C.out _).mono ?_
    rintro r w1 ⟨rfl, hb⟩
    have h1 := h'.below hb h'.lt
    have hg1 : w.grownBy w1 (some g) := grown_below11 hb
    have k2 : w1.cell? ⟨g, 2, none⟩ = some (.int .i64 0) := h1.cell 2
    have f2 := h1.frozen 2
    have hg2 := hg1.trans (grownSetG w1 ⟨g, 2, none⟩ (.int .i64 V))
    clear c2 hb hg1
    go_wp2
    go_ret
    exact ⟨rfl, hg2⟩
  · have HV := Lib.hid (show nxE11 B a e = e from if_neg he)
    go_enter Try.func38, Try.ntmps38
    go_wp2
    go_ret
    exact ⟨by rw [HV.out]; rfl, World.grownBy_refl11 _ _⟩
set_option maxRecDepth 100000 in
set_option maxHeartbeats 2000000 in
theorem rof_any11 (s : ByteArray) (w : World) :
    Calls Try.prog 34 #[.string s] w fun r w' => r = .returned (.pointer (some ⟨w.heap.size, 0, none⟩)) ∧ Is w' w.heap.size 84 (rdr11 s 0 (if 65536 < s.size then 2 else 0)) ∧ Below w.heap.size w w' ∧ w.heap.size < w'.heap.size := by
  have i1 : Is (w.alloc (.cells #[.string s, .int .i64 0, .int .i64 0] 84)) w.heap.size 84 #[.string s, .int .i64 0, .int .i64 0] := Is.new _ _ _
  have hB : Below w.heap.size w (w.alloc (.cells #[.string s, .int .i64 0, .int .i64 0] 84)) := (Below.refl _ _).alloc (Nat.le_refl _) _
  by_cases h : 65536 < s.size
  · have h1 : (65536 : Int) < (s.size : Int) := by omega
    have i2 : Is (w.alloc (.cells #[.string s, .int .i64 0, .int .i64 2] 84)) w.heap.size 84 #[.string s, .int .i64 0, .int .i64 2] := Is.new _ _ _
    have hB2 : Below w.heap.size w (w.alloc (.cells #[.string s, .int .i64 0, .int .i64 2] 84)) := (Below.refl _ _).alloc (Nat.le_refl _) _
    rw [if_pos h]
    go_enter Try.func34, Try.ntmps34
    go_wp2
    go_ret
    exact ⟨rfl, i2, hB2, i2.lt⟩
  · have h1 : ¬ (65536 : Int) < (s.size : Int) := by omega
    rw [if_neg h]
    go_enter Try.func34, Try.ntmps34
    go_wp2
    go_ret
    exact ⟨rfl, i1, hB, i1.lt⟩
end Go.Proofs.Ytapfbcpbiagogaa
