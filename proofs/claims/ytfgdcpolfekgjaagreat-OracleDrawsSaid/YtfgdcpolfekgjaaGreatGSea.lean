/-
  Layer 6, plain: frames of texts.
  What is wrong goes up by a panic: must, sound, errorOf, and the deferred functions of the three calls.
  Frames: a contract of the program's own.
-/
import Derived.Test.YtfgdcpolfekgjaaGreatGStr
import Derived.Test.YtfgdcpolfekgjaaGreatGKit
import Derived.Test.YtfgdcpolfekgjaaGreatGAe3
import Derived.Lib.AppendStr
import Derived.Test.YtfgdcpolfekgjaaGreatProg
import Derived.Defers
import Derived.Recover
import Derived.WalkSmall
namespace Go.Proofs.YtfgdcpolfekgjaaGreat
open Go.RowKit Go.Shelf

/-- a number as four bytes, the highest one first. -/
def be4 (n : Nat) : List Nat := [n / 16777216 % 256, n / 65536 % 256, n / 256 % 256, n % 256]
def frL (s : ByteArray) : List Nat := be4 s.size ++ natL s
def frsL (l : List ByteArray) : List Nat := l.flatMap frL
theorem frL_len (s : ByteArray) : (frL s).length = 4 + s.size := by rw [frL, List.length_append, natL_len]; rfl
theorem frsL_take (l : List ByteArray) (k : Nat) (h : k < l.length) : frsL (l.take (k + 1)) = frsL (l.take k) ++ frL (l.getD k ⟨#[]⟩) := by
  rw [List.take_succ_eq_append_getElem h, frsL, List.flatMap_append, List.flatMap_cons, List.flatMap_nil, List.append_nil, List.getD_eq_getElem?_getD, List.getElem?_eq_getElem h]
  rfl
theorem nL_app (a b : List Nat) : nL (a ++ b) = nL a ++ nL b := by simp [nL]
theorem nL_str (s : ByteArray) : nL (natL s) = Lib.strCells s := by
  rw [nL, natL, Lib.strCells, List.map_map]
  rfl
/-- the frames of three texts, one behind the other. -/
def frB (n w c : ByteArray) : ByteArray := strN (frsL [n, w, c])
theorem frB_size (n w c : ByteArray) : (frB n w c).size = 12 + n.size + w.size + c.size := by
  rw [frB, strN_size, frsL, List.flatMap_cons, List.flatMap_cons, List.flatMap_cons, List.flatMap_nil]
  simp only [List.length_append, frL_len, List.length_nil]
  omega
end Go.Proofs.YtfgdcpolfekgjaaGreat
namespace Go.Proofs.YtfgdcpolfekgjaaGreat
open Go.RowKit

/-- what is wrong, as it goes up. -/
def flt (x : Int) : PanicEntry := { v := .iface 196 (.agg #[.int .i64 x]), recovered := false }

set_option maxHeartbeats 1000000 in
theorem must_yes (x : Int) (w : World) :
    Calls Tryz.prog 132 #[.bool true, .int .i64 x] w fun e w' => e = .returned (.tuple #[]) ∧ w = w' := by
  go_enter Tryz.func132, Tryz.ntmps132
  go_wp2
  go_end0
  exact ⟨rfl, rfl⟩
set_option maxHeartbeats 1000000 in
theorem must_no (x : Int) (w : World) :
    Calls Tryz.prog 132 #[.bool false, .int .i64 x] w fun e w' => e = .panicked [flt x] ∧ w = w' := by
  go_enter Tryz.func132, Tryz.ntmps132
  go_wp2
  exact ⟨rfl, rfl, rfl⟩
set_option maxHeartbeats 1000000 in
theorem sound_ok (s : ByteArray) (w : World) :
    Calls Tryz.prog 146 #[.string s, .int .i64 0] w fun e w' => e = .returned (.string s) ∧ w = w' := by
  go_enter Tryz.func146, Tryz.ntmps146
  go_wp2_with fail
  refine (must_yes 0 _).mono ?_
  rintro e w' ⟨rfl, rfl⟩
  go_wp2
  go_ret
  exact ⟨rfl, rfl⟩
theorem assert_fault (v : Value) (W : World) : (Instr.typeAssert (.iface 196 v) 20 196 true).run Tryz.prog W = .ok (.tuple #[v, .bool true]) W := by kernel_rfl
theorem eql_iface_nil (t : TypeId) (v : Value) (W : World) : (binOp .eql 20 (.iface t v) .nilIface).run Tryz.prog W = .ok (.bool false) W := by kernel_rfl
set_option maxHeartbeats 1000000 in
theorem errorOf_nil (w : World) :
    Calls Tryz.prog 130 #[.nilIface] w fun e w' => e = .returned (.int .i64 0) ∧ w = w' := by
  go_enter Tryz.func130, Tryz.ntmps130
  go_wp2
  go_ret
  exact ⟨rfl, rfl⟩
set_option maxRecDepth 100000 in
set_option maxHeartbeats 1000000 in
theorem errorOf_fault (x : Int) (w : World) :
    Calls Tryz.prog 130 #[.iface 196 (.agg #[.int .i64 x])] w fun e w' => e = .returned (.int .i64 x) ∧ Below w.heap.size w w' := by
  have ha := assert_fault
  have he := eql_iface_nil
  go_enter Tryz.func130, Tryz.ntmps130
  go_wp2
  go_ret
  exact ⟨rfl, (Below.refl _ _).alloc (Nat.le_refl _) _⟩

set_option maxRecDepth 100000 in
set_option maxHeartbeats 1000000 in
theorem shut_idle (p : Addr) (u : Value) (w : World) (hc : w.cell? p = some u) (hz : w.frozen? p = false) :
    CallsD Tryz.prog 129 #[.pointer (some p)] .returning w fun e u' w' => e = .returned (.tuple #[]) ∧ u' = .returning ∧ w' = w.setCell p (.int .i64 0) := by
  refine callsD_of_wpS Tryz.func129 rfl fun c₀ cs hu => ?_
  apply wpS_region
  simp [wpOpsS, go_sem, recoverD, hu, Tryz.ntmps129]
  refine (errorOf_nil _).mono ?_
  rintro e w' ⟨rfl, rfl⟩
  cases c₀
  simp_all [go_sem, bodyPostS, results, Tryz.results129]
set_option maxRecDepth 100000 in
set_option maxHeartbeats 1000000 in
theorem opn_idle (p : Addr) (u : Value) (w : World) (hc : w.cell? p = some u) (hz : w.frozen? p = false) :
    CallsD Tryz.prog 143 #[.pointer (some p)] .returning w fun e u' w' => e = .returned (.tuple #[]) ∧ u' = .returning ∧ w' = w.setCell p (.int .i64 0) := by
  refine callsD_of_wpS Tryz.func143 rfl fun c₀ cs hu => ?_
  apply wpS_region
  simp [wpOpsS, go_sem, recoverD, hu, Tryz.ntmps143]
  refine (errorOf_nil _).mono ?_
  rintro e w' ⟨rfl, rfl⟩
  cases c₀
  simp_all [go_sem, bodyPostS, results, Tryz.results143]
set_option maxRecDepth 100000 in
set_option maxHeartbeats 1000000 in
theorem opn_caught (x : Int) (p : Addr) (u : Value) (older : List PanicEntry) (w : World) (hc : w.cell? p = some u) (hz : w.frozen? p = false) (hp : p.block < w.heap.size) :
    CallsD Tryz.prog 143 #[.pointer (some p)] (.panicking (flt x :: older)) w fun e u' w' =>
      e = .returned (.tuple #[]) ∧ u' = .panicking ({ flt x with recovered := true } :: older) ∧ ∃ w1, Below w.heap.size w w1 ∧ w' = w1.setCell p (.int .i64 x) := by
  refine callsD_of_wpS Tryz.func143 rfl fun c₀ cs hu => ?_
  apply wpS_region
  simp [wpOpsS, go_sem, recoverD, hu, Tryz.ntmps143, flt]
  refine (errorOf_fault x _).mono ?_
  rintro e w' ⟨rfl, hB⟩
  have hc' : w'.cell? p = some u := (hB.cell hp).trans hc
  have hz' : w'.frozen? p = false := (hB.frozen hp).trans hz
  simp [go_sem, hc', hz', bodyPostS, results, Tryz.results143]
  exact ⟨w', hB, rfl⟩

end Go.Proofs.YtfgdcpolfekgjaaGreat
namespace Go.Proofs.YtfgdcpolfekgjaaGreat
open Go.RowKit Go.Shelf

/-- what was appended, made a text. -/
theorem conv_own6 {W : World} {base k : Nat} {v : Value} {L : List Nat} (hown : W.ownsRow base 5 1 v k (nL L)) (hl : L.length = k) (hk : 0 < k) :
    (convert 63 9 v).run Tryz.prog W = .ok (.string (strN L)) W := by
  obtain ⟨n, rfl⟩ : ∃ n, k = n + 1 := ⟨k - 1, by omega⟩
  obtain ⟨g, cap, rfl⟩ := ownsRow_succ hown
  exact run_convert_bytes_arg (P := Tryz.prog) W 63 5 Tryz.underlying63 Tryz.underlying5 g 0 (n + 1) cap (L.map fun x : Nat => (x : Int)) (by rw [List.length_map, hl]) (fun i hi => by
    rw [Nat.zero_add, hown.cellAt i (by omega)]
    rw [nL, List.getElem?_map, List.getElem?_eq_getElem (by omega), List.getD_eq_getElem?_getD, List.getElem?_map, List.getElem?_eq_getElem (by omega)]
    rfl) 9 Tryz.underlying9

set_option maxRecDepth 100000 in
set_option maxHeartbeats 1000000 in
theorem frames_any (a b c : ByteArray) (g : Nat) (w : World) (hI : Is w g 9 #[.string a, .string b, .string c]) (ha : a.size ≤ 65552) (hb : b.size ≤ 65552) (hc : c.size ≤ 65552) :
    Calls Tryz.prog 148 #[.slice (some ⟨g, 0, none⟩) 3 3] w fun e w' => e = .returned (.string (frB a b c)) ∧ Below w.heap.size w w' := by
  obtain ⟨i0, hi, hz0, hz1, hz2⟩ := infoThree infoU8
  have hl : ∀ k, k < 3 → ([a, b, c].getD k ⟨#[]⟩).size ≤ 65552 := fun k hk => by
    match k, hk with
    | 0, _ => exact ha
    | 1, _ => exact hb
    | 2, _ => exact hc
  have hcl : ∀ (W : World), Is W g 9 #[.string a, .string b, .string c] → ∀ k, k < 3 → W.cell? ⟨g, k, none⟩ = some (.string ([a, b, c].getD k ⟨#[]⟩)) := fun W h k hk => by
    rw [h.cell]
    match k, hk with
    | 0, _ => rfl
    | 1, _ => rfl
    | 2, _ => rfl
  have htk : ∀ k, k < 3 → frsL ([a, b, c].take (k + 1)) = frsL ([a, b, c].take k) ++ frL ([a, b, c].getD k ⟨#[]⟩) := fun k hk => frsL_take _ k hk
  have hfr : frB a b c = strN (frsL ([a, b, c].take 3)) := rfl
  have hlen : ∀ k, k ≤ 3 → (frsL ([a, b, c].take k)).length ≤ k * 65556 := fun k => by
    induction k with
    | zero => intro _; exact Nat.le_refl _
    | succ k ih =>
      intro hk
      have h1 := hl k (by omega)
      rw [htk k (by omega), List.length_append, frL_len]
      have := ih (by omega)
      omega
  have hpos : 0 < (frsL ([a, b, c].take 3)).length := by
    rw [htk 2 (by omega), List.length_append, frL_len]; omega
  have h0 : frsL ([a, b, c].take 0) = [] := rfl
  rw [hfr]
  generalize [a, b, c] = T at *
  have HL := Lib.hid hl
  have HCL := Lib.hid hcl
  have HTK := Lib.hid htk
  have HLEN := Lib.hid hlen
  have H0 := Lib.hid h0
  clear hl hcl htk hlen h0 hfr
  have hgl := hI.lt
  go_enter Tryz.func148, Tryz.ntmps148
  go_wp2
  go_loopw [3, 5, 6, 9] (fun v _ _ i wr => ∃ k : Nat, k ≤ 3 ∧ i = .int .i64 k ∧ wr.ownsRow w.heap.size 5 1 v (frsL (T.take k)).length (nL (frsL (T.take k))) ∧ Below w.heap.size w wr)
    (fun _ _ _ i _ => 3 - (intOf i).toNat)
  case atStart => exact ⟨0, by omega, rfl, by rw [H0.out]; exact World.ownsRow_nil _ _ _ _, Below.refl _ _⟩
  case round =>
    obtain ⟨k, hk, rfl, hown, hB⟩ := hrel
    by_cases hlt : k < 3
    · have hcl := HCL.out wr (hI.below hB hgl) k hlt
      have hsz := HL.out k hlt
      have htk := HTK.out k hlt
      have hln := HLEN.out k (by omega)
      have hsz1 := hB.size
      have hlt1 : (k : Int) < 3 := by omega
      have hk0 : (0 : Int) ≤ (k : Int) := by omega
      clear hI hpos
      generalize T.getD k ⟨#[]⟩ = t at *
      generalize frsL (T.take k) = L at *
      generalize hL' : frsL (T.take (k + 1)) = L' at *
      have HLE := Lib.hid hL'
      clear hL'
      have b0 : ((t.size : Int) / 16777216) = ((t.size / 16777216 % 256 : Nat) : Int) := by omega
      have b1 : ((t.size : Int) / 65536) = ((t.size / 65536 % 256 : Nat) : Int) := by omega
      have b2 : ((t.size : Int) / 256 % 256) = ((t.size / 256 % 256 : Nat) : Int) := by omega
      have b3 : ((t.size : Int) % 256) = ((t.size % 256 : Nat) : Int) := by omega
      have hB4 : (nL (be4 t.size)) = [.int .u8 ((t.size : Int) / 16777216), .int .u8 ((t.size : Int) / 65536), .int .u8 ((t.size : Int) / 256 % 256), .int .u8 ((t.size : Int) % 256)] := by
        rw [b0, b1, b2, b3]
        rfl
      have HB4 := Lib.hid hB4
      have HTL := Lib.hid htk
      clear hB4 b0 b1 b2 b3 htk
      go_wp2_with (at_builtin; refine wpList_append_own _ rfl _ _ 63 rfl w.heap.size 5 i0 (.int .u8 0) 1 1 Tryz.underlying63 hi hz0 hz1 hz2 rfl (by decide) _ _ _ rfl (hown.alloc _) ⟨wr.heap.size, 0, none⟩ 4 4 (nL (be4 t.size)) rfl rfl ?c1 ?c2 ?c3 ?c4 ?c5 ?_)
      case c1 =>
        intro j u hj
        rw [HB4.out] at hj
        rw [Addr.add_lit, Nat.zero_add, (Is.new wr _ _).cell]
        simpa using hj
      case c2 => intro u hu; rw [HB4.out] at hu; simp only [List.mem_cons, List.not_mem_nil, or_false] at hu; rcases hu with rfl | rfl | rfl | rfl <;> rfl
      case c3 => unfold maxLen; omega
      case c4 => omega
      case c5 => simp; omega
      intro v' w1 hown' hgrow _
      have hB1 : Below w.heap.size w w1 := (hB.alloc hB.size _).grown hgrow (by have := hB.size; simp; omega) (fun g e => by have := (hown.lt g e).1; omega)
      clear hown hB hgrow hcl
      rw [← nL_app] at hown'
      have hsz2 := hB1.size
      go_wp2_with (at_builtin; refine Lib.wpList_append_own_string w1 rfl _ _ 63 9 rfl w.heap.size 5 i0 Tryz.underlying63 Tryz.underlying9 hi hz0 hz1 hz2 _ _ _ rfl hown' t rfl ?c1 ?c2 hsz2 ?_)
      case c1 => unfold maxLen; omega
      case c2 => omega
      intro v2 w2 hown2 hgrow2 _
      have hB2 : Below w.heap.size w w2 := hB1.grown hgrow2 hB1.size (fun g e => by have := (hown'.lt g e).1; omega)
      rw [← nL_str, ← nL_app, List.append_assoc, show be4 t.size ++ natL t = frL t from rfl, ← HTL.out, show L.length + 4 + t.size = L'.length by rw [HTL.out, List.length_append, frL_len]; omega] at hown2
      clear hown' hB1 hgrow2
      go_wp2
      go_roundw
      case rel => exact ⟨k + 1, by omega, by go_num, by rw [HLE.out]; exact hown2, hB2⟩
      case measure => simp [intOf]; omega
    · obtain rfl : k = 3 := by omega
      have hcv := conv_own6 hown rfl hpos
      clear hown hI
      generalize hst : strN (frsL (T.take 3)) = st at hcv
      have HST := Lib.hid hst
      clear hst
      go_wp2
      go_ret
      exact ⟨by rw [HST.out]; rfl, hB⟩
end Go.Proofs.YtfgdcpolfekgjaaGreat

